/- Layer 6: the reference's walks: Dates. -/
import Derived.Test.YtfheeipggedaiaaDoorScC
import Derived.OwnWalk
import Derived.Laws.OwnMore
import Derived.Laws.AppendOwn
namespace Go.Proofs.YtfheeipggedaiaaDoor
open Go Go.RowKit

def encS (x : Int) : Value := .int .i64 x
theorem infoS : (Tryd.prog.info? 3).map (fun i => (i.zero, i.size, i.bytes)) = some (some (.int .i64 0), 1, 8) := by kernel_rfl
theorem own_belS {w w' : World} {base : Nat} {e : TypeId} {size : Nat} {v : Value} {n : Nat} {xs : List Value} (h : w.ownsRow base e size v n xs) (b : Below w.heap.size w w') : w'.ownsRow base e size v n xs := by
  refine ⟨h.1, ?_⟩
  rcases h.2 with h0 | ⟨g, cap, cur, hv, hg, hh, r⟩
  · exact .inl h0
  · exact .inr ⟨g, cap, cur, hv, hg, (b.block _ (lt_of_block hh)).trans hh, r⟩
/-- What is own reads so. -/
theorem of_ownS {w : World} {base n : Nat} {v : Value} {xs : List Int} (h : w.ownsRow base 3 1 v n (xs.map encS)) : ∃ A c, v = .slice A n c ∧ n = xs.length ∧ HsA w A xs ∧ (A = none → c = 0) ∧ n ≤ c ∧ c ≤ maxLen := by
  have hl : n = xs.length := by have := h.1; simpa using this.symm
  rcases h.2 with ⟨hv, hn⟩ | ⟨g, cap, cur, hv, hb, hh, hn, hm, _⟩
  · refine ⟨none, 0, by rw [hv, hn], hl, .inl (List.eq_nil_of_length_eq_zero (by omega)), fun _ => rfl, by omega, by unfold maxLen; omega⟩
  · refine ⟨some ⟨g, 0, none⟩, cap, hv, hl, .inr ⟨g, 0, rfl, lt_of_block hh, fun j hj => ?_⟩, fun h => (by cases h), hn, hm⟩
    subst hv
    have := h.cells (g := g) rfl j (encS (xs.getD j 0)) (by rw [List.getElem?_map, List.getElem?_eq_getElem hj, List.getD_eq_getElem?_getD, List.getElem?_eq_getElem hj]; rfl)
    have hadd : (⟨g, 0, none⟩ : Addr).add j = ⟨g, 0 + j, none⟩ := by unfold Addr.add; split <;> simp_all
    rw [hadd] at this; exact this
/-- One element appended to a row of the call's own: the element has just been laid in a block of one cell. -/
theorem wpList_appS1 {P : Program} {ops : Array Oper} {rest : List Oper} {o : Oper} {a : Act} {Q : Exit → Act → World → Prop} {w : World} {base : Nat} {e : TypeId} {v : Value} {n : Nat} {xs : List Value} (hown : w.ownsRow base e 1 v n xs) (x : Value) (hgd : o.guard = none) (s y : Operand) (t : TypeId)
    (ho : o.op = .call { callee := .builtin .append, args := #[s, y], argTypes := #[t, t] })
    (i : TypeInfo) (z : Value) (bytes : Nat) (ht : P.underlying t = some (.slice e)) (hi : P.info? e = some i) (hz : i.zero = some z)
    (hsize : i.size = 1) (hby : i.bytes = bytes) (hzs : z.cells.size = 1)
    (hs : a.eval s = v) (hx : a.eval y = .slice (some ⟨w.heap.size, 0, none⟩) 1 1) (h1 : x.oneCell' = true) (h63 : n + 1 ≤ maxLen) (hbytes : (n + 1) * bytes ≤ 140737488355328) (hbase : base ≤ w.heap.size)
    (h : ∀ v' w', w'.ownsRow base e 1 v' (n + 1) (xs ++ [x]) → Below base w w' → wpList P ops Q rest (a.put o.dst v') w') : wpList P ops Q (o :: rest) a (w.alloc (.cells #[x] e)) := by
  refine wpList_append_own (w.alloc (.cells #[x] e)) hgd s y t ho base e i z 1 bytes ht hi hz hsize hby hzs (by decide) v n xs hs (hown.alloc _) ⟨w.heap.size, 0, none⟩ 1 1 [x] hx rfl ?_ ?_ h63 hbytes (by simp; omega) ?_
  · intro j u hj
    match j, hj with
    | 0, hj =>
      obtain rfl : x = u := by simpa using hj
      simp [Addr.add]
  · intro u hu
    obtain rfl : u = x := by simpa using hu
    exact h1
  · intro v' w' h2 h3 _
    exact h v' w' h2 (((Below.refl _ _).alloc hbase _).grown h3 (by simp; omega) fun k hk => (hown.lt k hk).1)
/-- A list of numbers and an error. -/
def DtsR (L : List Int) (e : Int) (w : World) (x : Ending) (w' : World) : Prop := ∃ A c, x = .returned (.tuple #[.slice A L.length c, .int .i64 e]) ∧ HsA w' A L ∧ (A = none → c = 0) ∧ L.length ≤ c ∧ c ≤ maxLen ∧ Below w.heap.size w w'
theorem dtsR_nil {e : Int} {w w' : World} (h : Below w.heap.size w w') : DtsR [] e w (.returned (.tuple #[.slice none 0 0, .int .i64 e])) w' := ⟨none, 0, rfl, .inl rfl, fun _ => rfl, by simp, by unfold maxLen; omega, h⟩
section
variable (st en mo : Int) (bk la : Bool) (sb ro we : Int) (A : Option Addr) (c : Nat) (hs : List Int)

set_option maxRecDepth 100000 in
set_option maxHeartbeats 1600000 in
theorem rdates_bad (w : World) (H0 : ∀ W, Below w.heap.size w W → Calls Tryd.prog 22 #[.agg #[.int .i64 st, .int .i64 en, .int .i64 mo, .bool bk, .bool la, .int .u8 sb, .int .u8 ro, .int .u8 we, .slice A hs.length c]] W fun e w' => e = .returned (.bool false) ∧ Below W.heap.size W w') :
    Calls Tryd.prog 19 #[.agg #[.int .i64 st, .int .i64 en, .int .i64 mo, .bool bk, .bool la, .int .u8 sb, .int .u8 ro, .int .u8 we, .slice A hs.length c]] w (DtsR [] 8 w) := by
  have J0 := Lib.hid H0
  clear H0
  go_enter Tryd.func19, Tryd.ntmps19
  go_wp2_with (go_at_call 22; ((with_reducible refine (J0.out _ (belE_c _ _)).mono ?_); rintro x w1 ⟨rfl, b⟩; obtain ⟨q0, q1, q2, q3, q4, q5, q6, q7, q8⟩ := row9S b; have B1 := Lib.hid b; clear b))
  go_ret2
  exact dtsR_nil (btS (belE_c _ _) B1.out)
set_option maxRecDepth 100000 in
set_option maxHeartbeats 1600000 in
theorem rdates_many (r : Int) (hr : 100 < r) (w : World) (H0 : ∀ W, Below w.heap.size w W → Calls Tryd.prog 22 #[.agg #[.int .i64 st, .int .i64 en, .int .i64 mo, .bool bk, .bool la, .int .u8 sb, .int .u8 ro, .int .u8 we, .slice A hs.length c]] W fun e w' => e = .returned (.bool true) ∧ Below W.heap.size W w')
    (H1 : ∀ W, Calls Tryd.prog 31 #[.agg #[.int .i64 st, .int .i64 en, .int .i64 mo, .bool bk, .bool la, .int .u8 sb, .int .u8 ro, .int .u8 we, .slice A hs.length c]] W fun e w' => e = .returned (.int .i64 r) ∧ Below W.heap.size W w') :
    Calls Tryd.prog 19 #[.agg #[.int .i64 st, .int .i64 en, .int .i64 mo, .bool bk, .bool la, .int .u8 sb, .int .u8 ro, .int .u8 we, .slice A hs.length c]] w (DtsR [] 4 w) := by
  have J0 := Lib.hid H0
  have J1 := Lib.hid H1
  clear H0 H1
  go_enter Tryd.func19, Tryd.ntmps19
  go_wp2_with (first
    | (go_at_call 22; ((with_reducible refine (J0.out _ (belE_c _ _)).mono ?_); rintro x w1 ⟨rfl, b⟩; obtain ⟨q0, q1, q2, q3, q4, q5, q6, q7, q8⟩ := row9S b; have B1 := Lib.hid b; clear b))
    | (go_at_call 31; ((with_reducible refine (J1.out _).mono ?_); rintro x w2 ⟨rfl, b⟩; obtain ⟨q0, q1, q2, q3, q4, q5, q6, q7, q8⟩ := row9S (btS B1.out b); have B2 := Lib.hid (btS B1.out b); clear b)))
  go_ret2
  exact dtsR_nil (btS (belE_c _ _) B2.out)

set_option maxRecDepth 100000 in
set_option maxHeartbeats 3200000 in
theorem rdates_many2 (r : Int) (z : Bool) (n : Nat) (hr : r ≤ 100) (hn : 98 < n) (hc : (r = 0 ∧ n = 0) ∨ (0 < r ∧ (sb == 1) = false ∧ (n : Int) = r) ∨ (0 < r ∧ sb = 1 ∧ z = false ∧ (n : Int) = r) ∨ (0 < r ∧ sb = 1 ∧ z = true ∧ (n : Int) + 1 = r)) (w : World) (H0 : ∀ W, Below w.heap.size w W → Calls Tryd.prog 22 #[.agg #[.int .i64 st, .int .i64 en, .int .i64 mo, .bool bk, .bool la, .int .u8 sb, .int .u8 ro, .int .u8 we, .slice A hs.length c]] W fun e w' => e = .returned (.bool true) ∧ Below W.heap.size W w')
    (H1 : ∀ W, Calls Tryd.prog 31 #[.agg #[.int .i64 st, .int .i64 en, .int .i64 mo, .bool bk, .bool la, .int .u8 sb, .int .u8 ro, .int .u8 we, .slice A hs.length c]] W fun e w' => e = .returned (.int .i64 r) ∧ Below W.heap.size W w')
    (H2 : ∀ W, Calls Tryd.prog 32 #[.agg #[.int .i64 st, .int .i64 en, .int .i64 mo, .bool bk, .bool la, .int .u8 sb, .int .u8 ro, .int .u8 we, .slice A hs.length c]] W fun e w' => e = .returned (.bool z) ∧ Below W.heap.size W w') :
    Calls Tryd.prog 19 #[.agg #[.int .i64 st, .int .i64 en, .int .i64 mo, .bool bk, .bool la, .int .u8 sb, .int .u8 ro, .int .u8 we, .slice A hs.length c]] w (DtsR [] 4 w) := by
  have J0 := Lib.hid H0
  have J1 := Lib.hid H1
  have J2 := Lib.hid H2
  clear H0 H1 H2
  rcases hc with ⟨rfl, rfl⟩ | ⟨r0, h1, rfl⟩ | ⟨r0, rfl, rfl, rfl⟩ | ⟨r0, rfl, rfl, rfl⟩
  · omega
  · go_enter Tryd.func19, Tryd.ntmps19
    go_wp2_with (first
      | (go_at_call 22; ((with_reducible refine (J0.out _ (belE_c _ _)).mono ?_); rintro x w1 ⟨rfl, b⟩; obtain ⟨q0, q1, q2, q3, q4, q5, q6, q7, q8⟩ := row9S b; have B1 := Lib.hid b; clear b))
      | (go_at_call 31; ((with_reducible refine (J1.out _).mono ?_); rintro x w2 ⟨rfl, b⟩; obtain ⟨q0, q1, q2, q3, q4, q5, q6, q7, q8⟩ := row9S (btS B1.out b); have B2 := Lib.hid (btS B1.out b); clear b)))
    go_ret2
    exact dtsR_nil (btS (belE_c _ _) B2.out)
  · go_enter Tryd.func19, Tryd.ntmps19
    go_wp2_with (first
      | (go_at_call 22; ((with_reducible refine (J0.out _ (belE_c _ _)).mono ?_); rintro x w1 ⟨rfl, b⟩; obtain ⟨q0, q1, q2, q3, q4, q5, q6, q7, q8⟩ := row9S b; have B1 := Lib.hid b; clear b))
      | (go_at_call 31; ((with_reducible refine (J1.out _).mono ?_); rintro x w2 ⟨rfl, b⟩; obtain ⟨q0, q1, q2, q3, q4, q5, q6, q7, q8⟩ := row9S (btS B1.out b); have B2 := Lib.hid (btS B1.out b); clear b))
      | (go_at_call 32; ((with_reducible refine (J2.out _).mono ?_); rintro x w3 ⟨rfl, b⟩; obtain ⟨q0, q1, q2, q3, q4, q5, q6, q7, q8⟩ := row9S (btS B2.out b); have B3 := Lib.hid (btS B2.out b); clear b)))
    go_ret2
    exact dtsR_nil (btS (belE_c _ _) B3.out)
  · have hn2 : 100 < (n : Int) + 1 - 1 + 2 := by omega
    go_enter Tryd.func19, Tryd.ntmps19
    go_wp2_with (first
      | (go_at_call 22; ((with_reducible refine (J0.out _ (belE_c _ _)).mono ?_); rintro x w1 ⟨rfl, b⟩; obtain ⟨q0, q1, q2, q3, q4, q5, q6, q7, q8⟩ := row9S b; have B1 := Lib.hid b; clear b))
      | (go_at_call 31; ((with_reducible refine (J1.out _).mono ?_); rintro x w2 ⟨rfl, b⟩; obtain ⟨q0, q1, q2, q3, q4, q5, q6, q7, q8⟩ := row9S (btS B1.out b); have B2 := Lib.hid (btS B1.out b); clear b))
      | (go_at_call 32; ((with_reducible refine (J2.out _).mono ?_); rintro x w3 ⟨rfl, b⟩; obtain ⟨q0, q1, q2, q3, q4, q5, q6, q7, q8⟩ := row9S (btS B2.out b); have B3 := Lib.hid (btS B2.out b); clear b)))
    go_ret2
    exact dtsR_nil (btS (belE_c _ _) B3.out)

end
set_option maxRecDepth 100000 in
set_option maxHeartbeats 6400000 in
theorem rdates_ok0 (st en mo : Int) (la : Bool) (sb ro we : Int) (A : Option Addr) (c : Nat) (hs : List Int) (g : Nat → Int) (f : Nat → Bool) (r : Int) (z : Bool) (n : Nat) (hr : r ≤ 100) (hn : n ≤ 98) (hc : (r = 0 ∧ n = 0) ∨ (0 < r ∧ (sb == 1) = false ∧ (n : Int) = r) ∨ (0 < r ∧ sb = 1 ∧ z = false ∧ (n : Int) = r) ∨ (0 < r ∧ sb = 1 ∧ z = true ∧ (n : Int) + 1 = r)) (w : World) (H0 : ∀ W, Below w.heap.size w W → Calls Tryd.prog 22 #[.agg #[.int .i64 st, .int .i64 en, .int .i64 mo, .bool false, .bool la, .int .u8 sb, .int .u8 ro, .int .u8 we, .slice A hs.length c]] W fun e w' => e = .returned (.bool true) ∧ Below W.heap.size W w')
    (H1 : ∀ W, Calls Tryd.prog 31 #[.agg #[.int .i64 st, .int .i64 en, .int .i64 mo, .bool false, .bool la, .int .u8 sb, .int .u8 ro, .int .u8 we, .slice A hs.length c]] W fun e w' => e = .returned (.int .i64 r) ∧ Below W.heap.size W w')
    (H2 : ∀ W, Calls Tryd.prog 32 #[.agg #[.int .i64 st, .int .i64 en, .int .i64 mo, .bool false, .bool la, .int .u8 sb, .int .u8 ro, .int .u8 we, .slice A hs.length c]] W fun e w' => e = .returned (.bool z) ∧ Below W.heap.size W w')
    (H3 : ∀ (k : Nat) W, 1 ≤ k → k ≤ 200 → Calls Tryd.prog 33 #[.agg #[.int .i64 st, .int .i64 en, .int .i64 mo, .bool false, .bool la, .int .u8 sb, .int .u8 ro, .int .u8 we, .slice A hs.length c], .int .i64 k] W (StpR (g k) (f k) W)) :
    Calls Tryd.prog 19 #[.agg #[.int .i64 st, .int .i64 en, .int .i64 mo, .bool false, .bool la, .int .u8 sb, .int .u8 ro, .int .u8 we, .slice A hs.length c]] w (DtsR (dtL false g n st en) 0 w) := by
  have J0 := Lib.hid H0
  have J1 := Lib.hid H1
  have J2 := Lib.hid H2
  have J3 := Lib.hid H3
  obtain ⟨i0, hi0, hz0, hz1, hz2⟩ := info_parts infoS
  have HP := Lib.hid (fun k => dtP_succ false g n st en k)
  have HM := Lib.hid (fun i (h0 : 0 < i) (h : i ≤ n) => dtI_mid false g n st en h0 h)
  have HE := Lib.hid (dtI_end false g n st en)
  have HL : Hid (dtL false g n st en = dtP false g n st en (n + 2)) := rfl
  have HLn := Lib.hid (dtL_len false g n st en)
  have H1r : Hid ((dtP false g n st en 1).map encS = [.int .i64 st]) := rfl
  generalize dtP false g n st en = P at *
  generalize dtI false g n st en = D at *
  generalize dtL false g n st en = LL at *
  clear H0 H1 H2 H3
  rcases hc with ⟨rfl, rfl⟩ | ⟨r0, h1, rfl⟩ | ⟨r0, rfl, rfl, rfl⟩ | ⟨r0, rfl, rfl, rfl⟩
  · go_enter Tryd.func19, Tryd.ntmps19
    go_wp2_with (first
      | (go_at_call 22; ((with_reducible refine (J0.out _ (belE_c _ _)).mono ?_); rintro x w1 ⟨rfl, b⟩; obtain ⟨q0, q1, q2, q3, q4, q5, q6, q7, q8⟩ := row9S b; have B1 := Lib.hid b; clear b))
      | (go_at_call 31; ((with_reducible refine (J1.out _).mono ?_); rintro x w2 ⟨rfl, b⟩; obtain ⟨q0, q1, q2, q3, q4, q5, q6, q7, q8⟩ := row9S (btS B1.out b); have B2 := Lib.hid (btS B1.out b); clear b)))
    clear q0 q1 q2 q3 q4 q5 q6 q7 q8
    have HZ := Lib.hid B2.out.size
    have hsz0 : w2.heap.size ≤ w2.heap.size + 1 := by omega
    go_loopw [5, 6] (fun l i wr => ∃ (k : Nat) (v : Value), 1 ≤ k ∧ k ≤ 0 + 1 ∧ i = .int .i64 k ∧ l = v ∧ Hid (wr.ownsRow w2.heap.size 3 1 v k ((P k).map encS)) ∧ Hid (Below (w.alloc (.cells #[.int .i64 st, .int .i64 en, .int .i64 mo, .bool false, .bool la, .int .u8 sb, .int .u8 ro, .int .u8 we, .slice A hs.length c] 27)).heap.size (w.alloc (.cells #[.int .i64 st, .int .i64 en, .int .i64 mo, .bool false, .bool la, .int .u8 sb, .int .u8 ro, .int .u8 we, .slice A hs.length c] 27)) wr) ∧ w2.heap.size ≤ wr.heap.size) (fun _ i _ => 0 + 1 - (intOf i).toNat)
    case atStart => exact ⟨1, _, by omega, by omega, rfl, rfl, by rw [H1r.out]; exact World.ownsRow_lit _ #[.int .i64 st] 1 (Nat.le_refl _) (by decide) rfl, btS B2.out (belE_c _ _), by simp⟩
    case round =>
      obtain ⟨k, v, k0, k1, rfl, rfl, HO, HB, hsz⟩ := hrel
      obtain ⟨A', c', rfl, hlen, -, -, -, -⟩ := of_ownS HO.out
      clear hlen
      obtain ⟨q0, q1, q2, q3, q4, q5, q6, q7, q8⟩ := row9S HB.out
      · obtain rfl : k = 1 := by omega
        have HX : Hid (∀ (W : World) v', W.ownsRow w2.heap.size 3 1 v' (1 + 1) ((P (1)).map encS ++ [.int .i64 en]) → W.ownsRow w2.heap.size 3 1 v' (1 + 1) (LL.map encS)) := fun W v' h => by rw [HL.out, HP.out, List.map_append, HE.out]; exact h
        clear J0 J1 J2 J3 HP HM HE HL
        go_wp2_with (at_builtin; refine wpList_appS1 HO.out _ rfl _ _ 23 rfl i0 (.int .i64 0) 8 Tryd.underlying23 hi0 hz0 hz1 hz2 rfl rfl rfl rfl (by unfold maxLen; omega) (by omega) hsz ?_; intro v' w6 hown hb; obtain ⟨A6, c6, rfl, -, F1, F2, F3, F4⟩ := of_ownS (HX.out _ _ hown); have G1 := Lib.hid F1; have G2 := Lib.hid F2; have G3 := Lib.hid F3; have G4 := Lib.hid F4; have B6 := Lib.hid (HB.out.trans (hb.mono HZ.out)); clear hown hb F1 F2 F3 F4)
        go_ret2
        exact ⟨A6, c6, by rw [HLn.out]; rfl, G1.out, G2.out, by rw [HLn.out]; exact G3.out, G4.out, btS (belE_c _ _) B6.out⟩
  · go_enter Tryd.func19, Tryd.ntmps19
    go_wp2_with (first
      | (go_at_call 22; ((with_reducible refine (J0.out _ (belE_c _ _)).mono ?_); rintro x w1 ⟨rfl, b⟩; obtain ⟨q0, q1, q2, q3, q4, q5, q6, q7, q8⟩ := row9S b; have B1 := Lib.hid b; clear b))
      | (go_at_call 31; ((with_reducible refine (J1.out _).mono ?_); rintro x w2 ⟨rfl, b⟩; obtain ⟨q0, q1, q2, q3, q4, q5, q6, q7, q8⟩ := row9S (btS B1.out b); have B2 := Lib.hid (btS B1.out b); clear b)))
    clear q0 q1 q2 q3 q4 q5 q6 q7 q8
    have HZ := Lib.hid B2.out.size
    have hsz0 : w2.heap.size ≤ w2.heap.size + 1 := by omega
    go_loopw [5, 6] (fun l i wr => ∃ (k : Nat) (v : Value), 1 ≤ k ∧ k ≤ n + 1 ∧ i = .int .i64 k ∧ l = v ∧ Hid (wr.ownsRow w2.heap.size 3 1 v k ((P k).map encS)) ∧ Hid (Below (w.alloc (.cells #[.int .i64 st, .int .i64 en, .int .i64 mo, .bool false, .bool la, .int .u8 sb, .int .u8 ro, .int .u8 we, .slice A hs.length c] 27)).heap.size (w.alloc (.cells #[.int .i64 st, .int .i64 en, .int .i64 mo, .bool false, .bool la, .int .u8 sb, .int .u8 ro, .int .u8 we, .slice A hs.length c] 27)) wr) ∧ w2.heap.size ≤ wr.heap.size) (fun _ i _ => n + 1 - (intOf i).toNat)
    case atStart => exact ⟨1, _, by omega, by omega, rfl, rfl, by rw [H1r.out]; exact World.ownsRow_lit _ #[.int .i64 st] 1 (Nat.le_refl _) (by decide) rfl, btS B2.out (belE_c _ _), by simp⟩
    case round =>
      obtain ⟨k, v, k0, k1, rfl, rfl, HO, HB, hsz⟩ := hrel
      obtain ⟨A', c', rfl, hlen, -, -, -, -⟩ := of_ownS HO.out
      clear hlen
      obtain ⟨q0, q1, q2, q3, q4, q5, q6, q7, q8⟩ := row9S HB.out
      by_cases hk : k ≤ n
      · have HC := Lib.hid (fun W => J3.out k W k0 (by omega))
        have HX : Hid (∀ (W : World) v', W.ownsRow w2.heap.size 3 1 v' (k + 1) ((P k).map encS ++ [.int .i64 (g k)]) → W.ownsRow w2.heap.size 3 1 v' (k + 1) ((P (k + 1)).map encS)) := fun W v' h => by rw [HP.out, List.map_append, HM.out k k0 hk]; exact h
        have hk' : (k : Int) ≤ n := by omega
        clear J0 J1 J2 J3 HP HM HE HL HLn
        go_wp2_with (first
          | (go_at_call 33; ((with_reducible refine (HC.out _).mono ?_); rintro x w4 ⟨rfl, b⟩; have O4 := Lib.hid (own_belS HO.out b); have B4 := Lib.hid (btS HB.out b); have s4 := Nat.le_trans hsz b.size; clear b; obtain ⟨p0, p1, p2, p3, p4, p5, p6, p7, p8⟩ := row9S B4.out))
          | (at_builtin; refine wpList_appS1 O4.out _ rfl _ _ 23 rfl i0 (.int .i64 0) 8 Tryd.underlying23 hi0 hz0 hz1 hz2 rfl rfl rfl rfl (by unfold maxLen; omega) (by omega) s4 ?_; intro v' w6 hown hb; have O6 := Lib.hid (HX.out _ _ hown); have B6 := Lib.hid (B4.out.trans (hb.mono HZ.out)); have s6 := Nat.le_trans s4 hb.size; clear hown hb))
        go_roundw
        case rel => exact ⟨k + 1, _, by omega, by omega, by go_num, rfl, O6, B6, by omega⟩
        case measure => simp [intOf]; omega
      · obtain rfl : k = n + 1 := by omega
        have HX : Hid (∀ (W : World) v', W.ownsRow w2.heap.size 3 1 v' (n + 1 + 1) ((P (n + 1)).map encS ++ [.int .i64 en]) → W.ownsRow w2.heap.size 3 1 v' (n + 1 + 1) (LL.map encS)) := fun W v' h => by rw [HL.out, HP.out, List.map_append, HE.out]; exact h
        clear J0 J1 J2 J3 HP HM HE HL hk
        go_wp2_with (at_builtin; refine wpList_appS1 HO.out _ rfl _ _ 23 rfl i0 (.int .i64 0) 8 Tryd.underlying23 hi0 hz0 hz1 hz2 rfl rfl rfl rfl (by unfold maxLen; omega) (by omega) hsz ?_; intro v' w6 hown hb; obtain ⟨A6, c6, rfl, -, F1, F2, F3, F4⟩ := of_ownS (HX.out _ _ hown); have G1 := Lib.hid F1; have G2 := Lib.hid F2; have G3 := Lib.hid F3; have G4 := Lib.hid F4; have B6 := Lib.hid (HB.out.trans (hb.mono HZ.out)); clear hown hb F1 F2 F3 F4)
        go_ret2
        exact ⟨A6, c6, by rw [HLn.out]; rfl, G1.out, G2.out, by rw [HLn.out]; exact G3.out, G4.out, btS (belE_c _ _) B6.out⟩
  · go_enter Tryd.func19, Tryd.ntmps19
    go_wp2_with (first
      | (go_at_call 22; ((with_reducible refine (J0.out _ (belE_c _ _)).mono ?_); rintro x w1 ⟨rfl, b⟩; obtain ⟨q0, q1, q2, q3, q4, q5, q6, q7, q8⟩ := row9S b; have B1 := Lib.hid b; clear b))
      | (go_at_call 31; ((with_reducible refine (J1.out _).mono ?_); rintro x w2 ⟨rfl, b⟩; obtain ⟨q0, q1, q2, q3, q4, q5, q6, q7, q8⟩ := row9S (btS B1.out b); have B2 := Lib.hid (btS B1.out b); clear b))
      | (go_at_call 32; ((with_reducible refine (J2.out _).mono ?_); rintro x w3 ⟨rfl, b⟩; obtain ⟨q0, q1, q2, q3, q4, q5, q6, q7, q8⟩ := row9S (btS B2.out b); have B3 := Lib.hid (btS B2.out b); clear b)))
    clear q0 q1 q2 q3 q4 q5 q6 q7 q8
    have HZ := Lib.hid B3.out.size
    have hsz0 : w3.heap.size ≤ w3.heap.size + 1 := by omega
    go_loopw [5, 6] (fun l i wr => ∃ (k : Nat) (v : Value), 1 ≤ k ∧ k ≤ n + 1 ∧ i = .int .i64 k ∧ l = v ∧ Hid (wr.ownsRow w3.heap.size 3 1 v k ((P k).map encS)) ∧ Hid (Below (w.alloc (.cells #[.int .i64 st, .int .i64 en, .int .i64 mo, .bool false, .bool la, .int .u8 1, .int .u8 ro, .int .u8 we, .slice A hs.length c] 27)).heap.size (w.alloc (.cells #[.int .i64 st, .int .i64 en, .int .i64 mo, .bool false, .bool la, .int .u8 1, .int .u8 ro, .int .u8 we, .slice A hs.length c] 27)) wr) ∧ w3.heap.size ≤ wr.heap.size) (fun _ i _ => n + 1 - (intOf i).toNat)
    case atStart => exact ⟨1, _, by omega, by omega, rfl, rfl, by rw [H1r.out]; exact World.ownsRow_lit _ #[.int .i64 st] 1 (Nat.le_refl _) (by decide) rfl, btS B3.out (belE_c _ _), by simp⟩
    case round =>
      obtain ⟨k, v, k0, k1, rfl, rfl, HO, HB, hsz⟩ := hrel
      obtain ⟨A', c', rfl, hlen, -, -, -, -⟩ := of_ownS HO.out
      clear hlen
      obtain ⟨q0, q1, q2, q3, q4, q5, q6, q7, q8⟩ := row9S HB.out
      by_cases hk : k ≤ n
      · have HC := Lib.hid (fun W => J3.out k W k0 (by omega))
        have HX : Hid (∀ (W : World) v', W.ownsRow w3.heap.size 3 1 v' (k + 1) ((P k).map encS ++ [.int .i64 (g k)]) → W.ownsRow w3.heap.size 3 1 v' (k + 1) ((P (k + 1)).map encS)) := fun W v' h => by rw [HP.out, List.map_append, HM.out k k0 hk]; exact h
        have hk' : (k : Int) ≤ n := by omega
        clear J0 J1 J2 J3 HP HM HE HL HLn
        go_wp2_with (first
          | (go_at_call 33; ((with_reducible refine (HC.out _).mono ?_); rintro x w4 ⟨rfl, b⟩; have O4 := Lib.hid (own_belS HO.out b); have B4 := Lib.hid (btS HB.out b); have s4 := Nat.le_trans hsz b.size; clear b; obtain ⟨p0, p1, p2, p3, p4, p5, p6, p7, p8⟩ := row9S B4.out))
          | (at_builtin; refine wpList_appS1 O4.out _ rfl _ _ 23 rfl i0 (.int .i64 0) 8 Tryd.underlying23 hi0 hz0 hz1 hz2 rfl rfl rfl rfl (by unfold maxLen; omega) (by omega) s4 ?_; intro v' w6 hown hb; have O6 := Lib.hid (HX.out _ _ hown); have B6 := Lib.hid (B4.out.trans (hb.mono HZ.out)); have s6 := Nat.le_trans s4 hb.size; clear hown hb))
        go_roundw
        case rel => exact ⟨k + 1, _, by omega, by omega, by go_num, rfl, O6, B6, by omega⟩
        case measure => simp [intOf]; omega
      · obtain rfl : k = n + 1 := by omega
        have HX : Hid (∀ (W : World) v', W.ownsRow w3.heap.size 3 1 v' (n + 1 + 1) ((P (n + 1)).map encS ++ [.int .i64 en]) → W.ownsRow w3.heap.size 3 1 v' (n + 1 + 1) (LL.map encS)) := fun W v' h => by rw [HL.out, HP.out, List.map_append, HE.out]; exact h
        clear J0 J1 J2 J3 HP HM HE HL hk
        go_wp2_with (at_builtin; refine wpList_appS1 HO.out _ rfl _ _ 23 rfl i0 (.int .i64 0) 8 Tryd.underlying23 hi0 hz0 hz1 hz2 rfl rfl rfl rfl (by unfold maxLen; omega) (by omega) hsz ?_; intro v' w6 hown hb; obtain ⟨A6, c6, rfl, -, F1, F2, F3, F4⟩ := of_ownS (HX.out _ _ hown); have G1 := Lib.hid F1; have G2 := Lib.hid F2; have G3 := Lib.hid F3; have G4 := Lib.hid F4; have B6 := Lib.hid (HB.out.trans (hb.mono HZ.out)); clear hown hb F1 F2 F3 F4)
        go_ret2
        exact ⟨A6, c6, by rw [HLn.out]; rfl, G1.out, G2.out, by rw [HLn.out]; exact G3.out, G4.out, btS (belE_c _ _) B6.out⟩
  · go_enter Tryd.func19, Tryd.ntmps19
    go_wp2_with (first
      | (go_at_call 22; ((with_reducible refine (J0.out _ (belE_c _ _)).mono ?_); rintro x w1 ⟨rfl, b⟩; obtain ⟨q0, q1, q2, q3, q4, q5, q6, q7, q8⟩ := row9S b; have B1 := Lib.hid b; clear b))
      | (go_at_call 31; ((with_reducible refine (J1.out _).mono ?_); rintro x w2 ⟨rfl, b⟩; obtain ⟨q0, q1, q2, q3, q4, q5, q6, q7, q8⟩ := row9S (btS B1.out b); have B2 := Lib.hid (btS B1.out b); clear b))
      | (go_at_call 32; ((with_reducible refine (J2.out _).mono ?_); rintro x w3 ⟨rfl, b⟩; obtain ⟨q0, q1, q2, q3, q4, q5, q6, q7, q8⟩ := row9S (btS B2.out b); have B3 := Lib.hid (btS B2.out b); clear b)))
    clear q0 q1 q2 q3 q4 q5 q6 q7 q8
    have HZ := Lib.hid B3.out.size
    have hsz0 : w3.heap.size ≤ w3.heap.size + 1 := by omega
    go_loopw [5, 6] (fun l i wr => ∃ (k : Nat) (v : Value), 1 ≤ k ∧ k ≤ n + 1 ∧ i = .int .i64 k ∧ l = v ∧ Hid (wr.ownsRow w3.heap.size 3 1 v k ((P k).map encS)) ∧ Hid (Below (w.alloc (.cells #[.int .i64 st, .int .i64 en, .int .i64 mo, .bool false, .bool la, .int .u8 1, .int .u8 ro, .int .u8 we, .slice A hs.length c] 27)).heap.size (w.alloc (.cells #[.int .i64 st, .int .i64 en, .int .i64 mo, .bool false, .bool la, .int .u8 1, .int .u8 ro, .int .u8 we, .slice A hs.length c] 27)) wr) ∧ w3.heap.size ≤ wr.heap.size) (fun _ i _ => n + 1 - (intOf i).toNat)
    case atStart => exact ⟨1, _, by omega, by omega, rfl, rfl, by rw [H1r.out]; exact World.ownsRow_lit _ #[.int .i64 st] 1 (Nat.le_refl _) (by decide) rfl, btS B3.out (belE_c _ _), by simp⟩
    case round =>
      obtain ⟨k, v, k0, k1, rfl, rfl, HO, HB, hsz⟩ := hrel
      obtain ⟨A', c', rfl, hlen, -, -, -, -⟩ := of_ownS HO.out
      clear hlen
      obtain ⟨q0, q1, q2, q3, q4, q5, q6, q7, q8⟩ := row9S HB.out
      by_cases hk : k ≤ n
      · have HC := Lib.hid (fun W => J3.out k W k0 (by omega))
        have HX : Hid (∀ (W : World) v', W.ownsRow w3.heap.size 3 1 v' (k + 1) ((P k).map encS ++ [.int .i64 (g k)]) → W.ownsRow w3.heap.size 3 1 v' (k + 1) ((P (k + 1)).map encS)) := fun W v' h => by rw [HP.out, List.map_append, HM.out k k0 hk]; exact h
        have hk' : (k : Int) ≤ n := by omega
        clear J0 J1 J2 J3 HP HM HE HL HLn
        go_wp2_with (first
          | (go_at_call 33; ((with_reducible refine (HC.out _).mono ?_); rintro x w4 ⟨rfl, b⟩; have O4 := Lib.hid (own_belS HO.out b); have B4 := Lib.hid (btS HB.out b); have s4 := Nat.le_trans hsz b.size; clear b; obtain ⟨p0, p1, p2, p3, p4, p5, p6, p7, p8⟩ := row9S B4.out))
          | (at_builtin; refine wpList_appS1 O4.out _ rfl _ _ 23 rfl i0 (.int .i64 0) 8 Tryd.underlying23 hi0 hz0 hz1 hz2 rfl rfl rfl rfl (by unfold maxLen; omega) (by omega) s4 ?_; intro v' w6 hown hb; have O6 := Lib.hid (HX.out _ _ hown); have B6 := Lib.hid (B4.out.trans (hb.mono HZ.out)); have s6 := Nat.le_trans s4 hb.size; clear hown hb))
        go_roundw
        case rel => exact ⟨k + 1, _, by omega, by omega, by go_num, rfl, O6, B6, by omega⟩
        case measure => simp [intOf]; omega
      · obtain rfl : k = n + 1 := by omega
        have HX : Hid (∀ (W : World) v', W.ownsRow w3.heap.size 3 1 v' (n + 1 + 1) ((P (n + 1)).map encS ++ [.int .i64 en]) → W.ownsRow w3.heap.size 3 1 v' (n + 1 + 1) (LL.map encS)) := fun W v' h => by rw [HL.out, HP.out, List.map_append, HE.out]; exact h
        clear J0 J1 J2 J3 HP HM HE HL hk
        go_wp2_with (at_builtin; refine wpList_appS1 HO.out _ rfl _ _ 23 rfl i0 (.int .i64 0) 8 Tryd.underlying23 hi0 hz0 hz1 hz2 rfl rfl rfl rfl (by unfold maxLen; omega) (by omega) hsz ?_; intro v' w6 hown hb; obtain ⟨A6, c6, rfl, -, F1, F2, F3, F4⟩ := of_ownS (HX.out _ _ hown); have G1 := Lib.hid F1; have G2 := Lib.hid F2; have G3 := Lib.hid F3; have G4 := Lib.hid F4; have B6 := Lib.hid (HB.out.trans (hb.mono HZ.out)); clear hown hb F1 F2 F3 F4)
        go_ret2
        exact ⟨A6, c6, by rw [HLn.out]; rfl, G1.out, G2.out, by rw [HLn.out]; exact G3.out, G4.out, btS (belE_c _ _) B6.out⟩
set_option maxRecDepth 100000 in
set_option maxHeartbeats 6400000 in
theorem rdates_ok1 (st en mo : Int) (la : Bool) (sb ro we : Int) (A : Option Addr) (c : Nat) (hs : List Int) (g : Nat → Int) (f : Nat → Bool) (r : Int) (z : Bool) (n : Nat) (hr : r ≤ 100) (hn : n ≤ 98) (hc : (r = 0 ∧ n = 0) ∨ (0 < r ∧ (sb == 1) = false ∧ (n : Int) = r) ∨ (0 < r ∧ sb = 1 ∧ z = false ∧ (n : Int) = r) ∨ (0 < r ∧ sb = 1 ∧ z = true ∧ (n : Int) + 1 = r)) (w : World) (H0 : ∀ W, Below w.heap.size w W → Calls Tryd.prog 22 #[.agg #[.int .i64 st, .int .i64 en, .int .i64 mo, .bool true, .bool la, .int .u8 sb, .int .u8 ro, .int .u8 we, .slice A hs.length c]] W fun e w' => e = .returned (.bool true) ∧ Below W.heap.size W w')
    (H1 : ∀ W, Calls Tryd.prog 31 #[.agg #[.int .i64 st, .int .i64 en, .int .i64 mo, .bool true, .bool la, .int .u8 sb, .int .u8 ro, .int .u8 we, .slice A hs.length c]] W fun e w' => e = .returned (.int .i64 r) ∧ Below W.heap.size W w')
    (H2 : ∀ W, Calls Tryd.prog 32 #[.agg #[.int .i64 st, .int .i64 en, .int .i64 mo, .bool true, .bool la, .int .u8 sb, .int .u8 ro, .int .u8 we, .slice A hs.length c]] W fun e w' => e = .returned (.bool z) ∧ Below W.heap.size W w')
    (H3 : ∀ (k : Nat) W, 1 ≤ k → k ≤ 200 → Calls Tryd.prog 33 #[.agg #[.int .i64 st, .int .i64 en, .int .i64 mo, .bool true, .bool la, .int .u8 sb, .int .u8 ro, .int .u8 we, .slice A hs.length c], .int .i64 k] W (StpR (g k) (f k) W)) :
    Calls Tryd.prog 19 #[.agg #[.int .i64 st, .int .i64 en, .int .i64 mo, .bool true, .bool la, .int .u8 sb, .int .u8 ro, .int .u8 we, .slice A hs.length c]] w (DtsR (dtL true g n st en) 0 w) := by
  have J0 := Lib.hid H0
  have J1 := Lib.hid H1
  have J2 := Lib.hid H2
  have J3 := Lib.hid H3
  obtain ⟨i0, hi0, hz0, hz1, hz2⟩ := info_parts infoS
  have HP := Lib.hid (fun k => dtP_succ true g n st en k)
  have HM := Lib.hid (fun i (h0 : 0 < i) (h : i ≤ n) => dtI_mid true g n st en h0 h)
  have HE := Lib.hid (dtI_end true g n st en)
  have HL : Hid (dtL true g n st en = dtP true g n st en (n + 2)) := rfl
  have HLn := Lib.hid (dtL_len true g n st en)
  have H1r : Hid ((dtP true g n st en 1).map encS = [.int .i64 st]) := rfl
  generalize dtP true g n st en = P at *
  generalize dtI true g n st en = D at *
  generalize dtL true g n st en = LL at *
  clear H0 H1 H2 H3
  rcases hc with ⟨rfl, rfl⟩ | ⟨r0, h1, rfl⟩ | ⟨r0, rfl, rfl, rfl⟩ | ⟨r0, rfl, rfl, rfl⟩
  · go_enter Tryd.func19, Tryd.ntmps19
    go_wp2_with (first
      | (go_at_call 22; ((with_reducible refine (J0.out _ (belE_c _ _)).mono ?_); rintro x w1 ⟨rfl, b⟩; obtain ⟨q0, q1, q2, q3, q4, q5, q6, q7, q8⟩ := row9S b; have B1 := Lib.hid b; clear b))
      | (go_at_call 31; ((with_reducible refine (J1.out _).mono ?_); rintro x w2 ⟨rfl, b⟩; obtain ⟨q0, q1, q2, q3, q4, q5, q6, q7, q8⟩ := row9S (btS B1.out b); have B2 := Lib.hid (btS B1.out b); clear b)))
    clear q0 q1 q2 q3 q4 q5 q6 q7 q8
    have HZ := Lib.hid B2.out.size
    have hsz0 : w2.heap.size ≤ w2.heap.size + 1 := by omega
    go_loopw [5, 6] (fun l i wr => ∃ (k : Nat) (v : Value), 1 ≤ k ∧ k ≤ 0 + 1 ∧ i = .int .i64 k ∧ l = v ∧ Hid (wr.ownsRow w2.heap.size 3 1 v k ((P k).map encS)) ∧ Hid (Below (w.alloc (.cells #[.int .i64 st, .int .i64 en, .int .i64 mo, .bool true, .bool la, .int .u8 sb, .int .u8 ro, .int .u8 we, .slice A hs.length c] 27)).heap.size (w.alloc (.cells #[.int .i64 st, .int .i64 en, .int .i64 mo, .bool true, .bool la, .int .u8 sb, .int .u8 ro, .int .u8 we, .slice A hs.length c] 27)) wr) ∧ w2.heap.size ≤ wr.heap.size) (fun _ i _ => 0 + 1 - (intOf i).toNat)
    case atStart => exact ⟨1, _, by omega, by omega, rfl, rfl, by rw [H1r.out]; exact World.ownsRow_lit _ #[.int .i64 st] 1 (Nat.le_refl _) (by decide) rfl, btS B2.out (belE_c _ _), by simp⟩
    case round =>
      obtain ⟨k, v, k0, k1, rfl, rfl, HO, HB, hsz⟩ := hrel
      obtain ⟨A', c', rfl, hlen, -, -, -, -⟩ := of_ownS HO.out
      clear hlen
      obtain ⟨q0, q1, q2, q3, q4, q5, q6, q7, q8⟩ := row9S HB.out
      · obtain rfl : k = 1 := by omega
        have HX : Hid (∀ (W : World) v', W.ownsRow w2.heap.size 3 1 v' (1 + 1) ((P (1)).map encS ++ [.int .i64 en]) → W.ownsRow w2.heap.size 3 1 v' (1 + 1) (LL.map encS)) := fun W v' h => by rw [HL.out, HP.out, List.map_append, HE.out]; exact h
        clear J0 J1 J2 J3 HP HM HE HL
        go_wp2_with (at_builtin; refine wpList_appS1 HO.out _ rfl _ _ 23 rfl i0 (.int .i64 0) 8 Tryd.underlying23 hi0 hz0 hz1 hz2 rfl rfl rfl rfl (by unfold maxLen; omega) (by omega) hsz ?_; intro v' w6 hown hb; obtain ⟨A6, c6, rfl, -, F1, F2, F3, F4⟩ := of_ownS (HX.out _ _ hown); have G1 := Lib.hid F1; have G2 := Lib.hid F2; have G3 := Lib.hid F3; have G4 := Lib.hid F4; have B6 := Lib.hid (HB.out.trans (hb.mono HZ.out)); clear hown hb F1 F2 F3 F4)
        go_ret2
        exact ⟨A6, c6, by rw [HLn.out]; rfl, G1.out, G2.out, by rw [HLn.out]; exact G3.out, G4.out, btS (belE_c _ _) B6.out⟩
  · go_enter Tryd.func19, Tryd.ntmps19
    go_wp2_with (first
      | (go_at_call 22; ((with_reducible refine (J0.out _ (belE_c _ _)).mono ?_); rintro x w1 ⟨rfl, b⟩; obtain ⟨q0, q1, q2, q3, q4, q5, q6, q7, q8⟩ := row9S b; have B1 := Lib.hid b; clear b))
      | (go_at_call 31; ((with_reducible refine (J1.out _).mono ?_); rintro x w2 ⟨rfl, b⟩; obtain ⟨q0, q1, q2, q3, q4, q5, q6, q7, q8⟩ := row9S (btS B1.out b); have B2 := Lib.hid (btS B1.out b); clear b)))
    clear q0 q1 q2 q3 q4 q5 q6 q7 q8
    have HZ := Lib.hid B2.out.size
    have hsz0 : w2.heap.size ≤ w2.heap.size + 1 := by omega
    go_loopw [5, 6] (fun l i wr => ∃ (k : Nat) (v : Value), 1 ≤ k ∧ k ≤ n + 1 ∧ i = .int .i64 k ∧ l = v ∧ Hid (wr.ownsRow w2.heap.size 3 1 v k ((P k).map encS)) ∧ Hid (Below (w.alloc (.cells #[.int .i64 st, .int .i64 en, .int .i64 mo, .bool true, .bool la, .int .u8 sb, .int .u8 ro, .int .u8 we, .slice A hs.length c] 27)).heap.size (w.alloc (.cells #[.int .i64 st, .int .i64 en, .int .i64 mo, .bool true, .bool la, .int .u8 sb, .int .u8 ro, .int .u8 we, .slice A hs.length c] 27)) wr) ∧ w2.heap.size ≤ wr.heap.size) (fun _ i _ => n + 1 - (intOf i).toNat)
    case atStart => exact ⟨1, _, by omega, by omega, rfl, rfl, by rw [H1r.out]; exact World.ownsRow_lit _ #[.int .i64 st] 1 (Nat.le_refl _) (by decide) rfl, btS B2.out (belE_c _ _), by simp⟩
    case round =>
      obtain ⟨k, v, k0, k1, rfl, rfl, HO, HB, hsz⟩ := hrel
      obtain ⟨A', c', rfl, hlen, -, -, -, -⟩ := of_ownS HO.out
      clear hlen
      obtain ⟨q0, q1, q2, q3, q4, q5, q6, q7, q8⟩ := row9S HB.out
      by_cases hk : k ≤ n
      · have HC := Lib.hid (fun W => J3.out k W k0 (by omega))
        have HC2 := Lib.hid (fun W => J3.out (n + 1 - k) W (by omega) (by omega))
        rw [show ((n + 1 - k : Nat) : Int) = (n : Int) + 1 - k by omega] at HC2
        have HX : Hid (∀ (W : World) v', W.ownsRow w2.heap.size 3 1 v' (k + 1) ((P k).map encS ++ [.int .i64 (g (n + 1 - k))]) → W.ownsRow w2.heap.size 3 1 v' (k + 1) ((P (k + 1)).map encS)) := fun W v' h => by rw [HP.out, List.map_append, HM.out k k0 hk]; exact h
        have hk' : (k : Int) ≤ n := by omega
        clear J0 J1 J2 J3 HP HM HE HL HLn
        go_wp2_with (first
          | (go_at_call 33; ((with_reducible refine (HC.out _).mono ?_); rintro x w4 ⟨rfl, b⟩; have O4 := Lib.hid (own_belS HO.out b); have B4 := Lib.hid (btS HB.out b); have s4 := Nat.le_trans hsz b.size; clear b; obtain ⟨p0, p1, p2, p3, p4, p5, p6, p7, p8⟩ := row9S B4.out))
          | (go_at_call 33; ((with_reducible refine (HC2.out _).mono ?_); rintro x w5 ⟨rfl, b⟩; have O5 := Lib.hid (own_belS O4.out b); have B5 := Lib.hid (btS B4.out b); have s5 := Nat.le_trans s4 b.size; clear b))
          | (at_builtin; refine wpList_appS1 O5.out _ rfl _ _ 23 rfl i0 (.int .i64 0) 8 Tryd.underlying23 hi0 hz0 hz1 hz2 rfl rfl rfl rfl (by unfold maxLen; omega) (by omega) s5 ?_; intro v' w6 hown hb; have O6 := Lib.hid (HX.out _ _ hown); have B6 := Lib.hid (B5.out.trans (hb.mono HZ.out)); have s6 := Nat.le_trans s5 hb.size; clear hown hb))
        go_roundw
        case rel => exact ⟨k + 1, _, by omega, by omega, by go_num, rfl, O6, B6, by omega⟩
        case measure => simp [intOf]; omega
      · obtain rfl : k = n + 1 := by omega
        have HX : Hid (∀ (W : World) v', W.ownsRow w2.heap.size 3 1 v' (n + 1 + 1) ((P (n + 1)).map encS ++ [.int .i64 en]) → W.ownsRow w2.heap.size 3 1 v' (n + 1 + 1) (LL.map encS)) := fun W v' h => by rw [HL.out, HP.out, List.map_append, HE.out]; exact h
        clear J0 J1 J2 J3 HP HM HE HL hk
        go_wp2_with (at_builtin; refine wpList_appS1 HO.out _ rfl _ _ 23 rfl i0 (.int .i64 0) 8 Tryd.underlying23 hi0 hz0 hz1 hz2 rfl rfl rfl rfl (by unfold maxLen; omega) (by omega) hsz ?_; intro v' w6 hown hb; obtain ⟨A6, c6, rfl, -, F1, F2, F3, F4⟩ := of_ownS (HX.out _ _ hown); have G1 := Lib.hid F1; have G2 := Lib.hid F2; have G3 := Lib.hid F3; have G4 := Lib.hid F4; have B6 := Lib.hid (HB.out.trans (hb.mono HZ.out)); clear hown hb F1 F2 F3 F4)
        go_ret2
        exact ⟨A6, c6, by rw [HLn.out]; rfl, G1.out, G2.out, by rw [HLn.out]; exact G3.out, G4.out, btS (belE_c _ _) B6.out⟩
  · go_enter Tryd.func19, Tryd.ntmps19
    go_wp2_with (first
      | (go_at_call 22; ((with_reducible refine (J0.out _ (belE_c _ _)).mono ?_); rintro x w1 ⟨rfl, b⟩; obtain ⟨q0, q1, q2, q3, q4, q5, q6, q7, q8⟩ := row9S b; have B1 := Lib.hid b; clear b))
      | (go_at_call 31; ((with_reducible refine (J1.out _).mono ?_); rintro x w2 ⟨rfl, b⟩; obtain ⟨q0, q1, q2, q3, q4, q5, q6, q7, q8⟩ := row9S (btS B1.out b); have B2 := Lib.hid (btS B1.out b); clear b))
      | (go_at_call 32; ((with_reducible refine (J2.out _).mono ?_); rintro x w3 ⟨rfl, b⟩; obtain ⟨q0, q1, q2, q3, q4, q5, q6, q7, q8⟩ := row9S (btS B2.out b); have B3 := Lib.hid (btS B2.out b); clear b)))
    clear q0 q1 q2 q3 q4 q5 q6 q7 q8
    have HZ := Lib.hid B3.out.size
    have hsz0 : w3.heap.size ≤ w3.heap.size + 1 := by omega
    go_loopw [5, 6] (fun l i wr => ∃ (k : Nat) (v : Value), 1 ≤ k ∧ k ≤ n + 1 ∧ i = .int .i64 k ∧ l = v ∧ Hid (wr.ownsRow w3.heap.size 3 1 v k ((P k).map encS)) ∧ Hid (Below (w.alloc (.cells #[.int .i64 st, .int .i64 en, .int .i64 mo, .bool true, .bool la, .int .u8 1, .int .u8 ro, .int .u8 we, .slice A hs.length c] 27)).heap.size (w.alloc (.cells #[.int .i64 st, .int .i64 en, .int .i64 mo, .bool true, .bool la, .int .u8 1, .int .u8 ro, .int .u8 we, .slice A hs.length c] 27)) wr) ∧ w3.heap.size ≤ wr.heap.size) (fun _ i _ => n + 1 - (intOf i).toNat)
    case atStart => exact ⟨1, _, by omega, by omega, rfl, rfl, by rw [H1r.out]; exact World.ownsRow_lit _ #[.int .i64 st] 1 (Nat.le_refl _) (by decide) rfl, btS B3.out (belE_c _ _), by simp⟩
    case round =>
      obtain ⟨k, v, k0, k1, rfl, rfl, HO, HB, hsz⟩ := hrel
      obtain ⟨A', c', rfl, hlen, -, -, -, -⟩ := of_ownS HO.out
      clear hlen
      obtain ⟨q0, q1, q2, q3, q4, q5, q6, q7, q8⟩ := row9S HB.out
      by_cases hk : k ≤ n
      · have HC := Lib.hid (fun W => J3.out k W k0 (by omega))
        have HC2 := Lib.hid (fun W => J3.out (n + 1 - k) W (by omega) (by omega))
        rw [show ((n + 1 - k : Nat) : Int) = (n : Int) + 1 - k by omega] at HC2
        have HX : Hid (∀ (W : World) v', W.ownsRow w3.heap.size 3 1 v' (k + 1) ((P k).map encS ++ [.int .i64 (g (n + 1 - k))]) → W.ownsRow w3.heap.size 3 1 v' (k + 1) ((P (k + 1)).map encS)) := fun W v' h => by rw [HP.out, List.map_append, HM.out k k0 hk]; exact h
        have hk' : (k : Int) ≤ n := by omega
        clear J0 J1 J2 J3 HP HM HE HL HLn
        go_wp2_with (first
          | (go_at_call 33; ((with_reducible refine (HC.out _).mono ?_); rintro x w4 ⟨rfl, b⟩; have O4 := Lib.hid (own_belS HO.out b); have B4 := Lib.hid (btS HB.out b); have s4 := Nat.le_trans hsz b.size; clear b; obtain ⟨p0, p1, p2, p3, p4, p5, p6, p7, p8⟩ := row9S B4.out))
          | (go_at_call 33; ((with_reducible refine (HC2.out _).mono ?_); rintro x w5 ⟨rfl, b⟩; have O5 := Lib.hid (own_belS O4.out b); have B5 := Lib.hid (btS B4.out b); have s5 := Nat.le_trans s4 b.size; clear b))
          | (at_builtin; refine wpList_appS1 O5.out _ rfl _ _ 23 rfl i0 (.int .i64 0) 8 Tryd.underlying23 hi0 hz0 hz1 hz2 rfl rfl rfl rfl (by unfold maxLen; omega) (by omega) s5 ?_; intro v' w6 hown hb; have O6 := Lib.hid (HX.out _ _ hown); have B6 := Lib.hid (B5.out.trans (hb.mono HZ.out)); have s6 := Nat.le_trans s5 hb.size; clear hown hb))
        go_roundw
        case rel => exact ⟨k + 1, _, by omega, by omega, by go_num, rfl, O6, B6, by omega⟩
        case measure => simp [intOf]; omega
      · obtain rfl : k = n + 1 := by omega
        have HX : Hid (∀ (W : World) v', W.ownsRow w3.heap.size 3 1 v' (n + 1 + 1) ((P (n + 1)).map encS ++ [.int .i64 en]) → W.ownsRow w3.heap.size 3 1 v' (n + 1 + 1) (LL.map encS)) := fun W v' h => by rw [HL.out, HP.out, List.map_append, HE.out]; exact h
        clear J0 J1 J2 J3 HP HM HE HL hk
        go_wp2_with (at_builtin; refine wpList_appS1 HO.out _ rfl _ _ 23 rfl i0 (.int .i64 0) 8 Tryd.underlying23 hi0 hz0 hz1 hz2 rfl rfl rfl rfl (by unfold maxLen; omega) (by omega) hsz ?_; intro v' w6 hown hb; obtain ⟨A6, c6, rfl, -, F1, F2, F3, F4⟩ := of_ownS (HX.out _ _ hown); have G1 := Lib.hid F1; have G2 := Lib.hid F2; have G3 := Lib.hid F3; have G4 := Lib.hid F4; have B6 := Lib.hid (HB.out.trans (hb.mono HZ.out)); clear hown hb F1 F2 F3 F4)
        go_ret2
        exact ⟨A6, c6, by rw [HLn.out]; rfl, G1.out, G2.out, by rw [HLn.out]; exact G3.out, G4.out, btS (belE_c _ _) B6.out⟩
  · go_enter Tryd.func19, Tryd.ntmps19
    go_wp2_with (first
      | (go_at_call 22; ((with_reducible refine (J0.out _ (belE_c _ _)).mono ?_); rintro x w1 ⟨rfl, b⟩; obtain ⟨q0, q1, q2, q3, q4, q5, q6, q7, q8⟩ := row9S b; have B1 := Lib.hid b; clear b))
      | (go_at_call 31; ((with_reducible refine (J1.out _).mono ?_); rintro x w2 ⟨rfl, b⟩; obtain ⟨q0, q1, q2, q3, q4, q5, q6, q7, q8⟩ := row9S (btS B1.out b); have B2 := Lib.hid (btS B1.out b); clear b))
      | (go_at_call 32; ((with_reducible refine (J2.out _).mono ?_); rintro x w3 ⟨rfl, b⟩; obtain ⟨q0, q1, q2, q3, q4, q5, q6, q7, q8⟩ := row9S (btS B2.out b); have B3 := Lib.hid (btS B2.out b); clear b)))
    clear q0 q1 q2 q3 q4 q5 q6 q7 q8
    have HZ := Lib.hid B3.out.size
    have hsz0 : w3.heap.size ≤ w3.heap.size + 1 := by omega
    go_loopw [5, 6] (fun l i wr => ∃ (k : Nat) (v : Value), 1 ≤ k ∧ k ≤ n + 1 ∧ i = .int .i64 k ∧ l = v ∧ Hid (wr.ownsRow w3.heap.size 3 1 v k ((P k).map encS)) ∧ Hid (Below (w.alloc (.cells #[.int .i64 st, .int .i64 en, .int .i64 mo, .bool true, .bool la, .int .u8 1, .int .u8 ro, .int .u8 we, .slice A hs.length c] 27)).heap.size (w.alloc (.cells #[.int .i64 st, .int .i64 en, .int .i64 mo, .bool true, .bool la, .int .u8 1, .int .u8 ro, .int .u8 we, .slice A hs.length c] 27)) wr) ∧ w3.heap.size ≤ wr.heap.size) (fun _ i _ => n + 1 - (intOf i).toNat)
    case atStart => exact ⟨1, _, by omega, by omega, rfl, rfl, by rw [H1r.out]; exact World.ownsRow_lit _ #[.int .i64 st] 1 (Nat.le_refl _) (by decide) rfl, btS B3.out (belE_c _ _), by simp⟩
    case round =>
      obtain ⟨k, v, k0, k1, rfl, rfl, HO, HB, hsz⟩ := hrel
      obtain ⟨A', c', rfl, hlen, -, -, -, -⟩ := of_ownS HO.out
      clear hlen
      obtain ⟨q0, q1, q2, q3, q4, q5, q6, q7, q8⟩ := row9S HB.out
      by_cases hk : k ≤ n
      · have HC := Lib.hid (fun W => J3.out k W k0 (by omega))
        have HC2 := Lib.hid (fun W => J3.out (n + 1 - k) W (by omega) (by omega))
        rw [show ((n + 1 - k : Nat) : Int) = (n : Int) + 1 - k by omega] at HC2
        have HX : Hid (∀ (W : World) v', W.ownsRow w3.heap.size 3 1 v' (k + 1) ((P k).map encS ++ [.int .i64 (g (n + 1 - k))]) → W.ownsRow w3.heap.size 3 1 v' (k + 1) ((P (k + 1)).map encS)) := fun W v' h => by rw [HP.out, List.map_append, HM.out k k0 hk]; exact h
        have hk' : (k : Int) ≤ n := by omega
        clear J0 J1 J2 J3 HP HM HE HL HLn
        go_wp2_with (first
          | (go_at_call 33; ((with_reducible refine (HC.out _).mono ?_); rintro x w4 ⟨rfl, b⟩; have O4 := Lib.hid (own_belS HO.out b); have B4 := Lib.hid (btS HB.out b); have s4 := Nat.le_trans hsz b.size; clear b; obtain ⟨p0, p1, p2, p3, p4, p5, p6, p7, p8⟩ := row9S B4.out))
          | (go_at_call 33; ((with_reducible refine (HC2.out _).mono ?_); rintro x w5 ⟨rfl, b⟩; have O5 := Lib.hid (own_belS O4.out b); have B5 := Lib.hid (btS B4.out b); have s5 := Nat.le_trans s4 b.size; clear b))
          | (at_builtin; refine wpList_appS1 O5.out _ rfl _ _ 23 rfl i0 (.int .i64 0) 8 Tryd.underlying23 hi0 hz0 hz1 hz2 rfl rfl rfl rfl (by unfold maxLen; omega) (by omega) s5 ?_; intro v' w6 hown hb; have O6 := Lib.hid (HX.out _ _ hown); have B6 := Lib.hid (B5.out.trans (hb.mono HZ.out)); have s6 := Nat.le_trans s5 hb.size; clear hown hb))
        go_roundw
        case rel => exact ⟨k + 1, _, by omega, by omega, by go_num, rfl, O6, B6, by omega⟩
        case measure => simp [intOf]; omega
      · obtain rfl : k = n + 1 := by omega
        have HX : Hid (∀ (W : World) v', W.ownsRow w3.heap.size 3 1 v' (n + 1 + 1) ((P (n + 1)).map encS ++ [.int .i64 en]) → W.ownsRow w3.heap.size 3 1 v' (n + 1 + 1) (LL.map encS)) := fun W v' h => by rw [HL.out, HP.out, List.map_append, HE.out]; exact h
        clear J0 J1 J2 J3 HP HM HE HL hk
        go_wp2_with (at_builtin; refine wpList_appS1 HO.out _ rfl _ _ 23 rfl i0 (.int .i64 0) 8 Tryd.underlying23 hi0 hz0 hz1 hz2 rfl rfl rfl rfl (by unfold maxLen; omega) (by omega) hsz ?_; intro v' w6 hown hb; obtain ⟨A6, c6, rfl, -, F1, F2, F3, F4⟩ := of_ownS (HX.out _ _ hown); have G1 := Lib.hid F1; have G2 := Lib.hid F2; have G3 := Lib.hid F3; have G4 := Lib.hid F4; have B6 := Lib.hid (HB.out.trans (hb.mono HZ.out)); clear hown hb F1 F2 F3 F4)
        go_ret2
        exact ⟨A6, c6, by rw [HLn.out]; rfl, G1.out, G2.out, by rw [HLn.out]; exact G3.out, G4.out, btS (belE_c _ _) B6.out⟩
end Go.Proofs.YtfheeipggedaiaaDoor
