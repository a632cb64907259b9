/- Joined: ObX, ObY, ObZ, ObZ2, ObZ3, ObW3, ObZ4, ObZ5, ObB2, OeV. -/
import Derived.Test.YtbfimfjhdbpenaaGreatDoorPl18
import Derived.Test.YtbfimfjhdbpenaaGreatDoorPl22
import Derived.Test.YtbfimfjhdbpenaaGreatDoorPl21
import Derived.Test.YtbfimfjhdbpenaaGreatDoorPl15
import Derived.Test.YtbfimfjhdbpenaaGreatDoorPl16
import Derived.OwnWalk
import Derived.Laws.OwnMore
import Derived.Laws.AppendOwn
import Derived.Deep.RegionHeld3
import Derived.Deep.RegionLaw
/- Layer 8: lists of structs in rows of the call's own; append to an empty slice. -/
namespace Go.Proofs.YtbfimfjhdbpenaaGreatDoor
open Go Go.RowKit Go.BigFrame
def rowsV {α : Type} (enc : α → List Value) (l : List α) : List Value := l.flatMap enc
theorem rowsV_snoc {α : Type} (enc : α → List Value) (l : List α) (x : α) : rowsV enc (l ++ [x]) = rowsV enc l ++ enc x := by unfold rowsV; simp
theorem rowsV_append {α : Type} (enc : α → List Value) (l m : List α) : rowsV enc (l ++ m) = rowsV enc l ++ rowsV enc m := by unfold rowsV; simp
theorem rowsV_len {α : Type} {enc : α → List Value} {k : Nat} (hk : ∀ x, (enc x).length = k) (l : List α) : (rowsV enc l).length = l.length * k := by
  induction l with
  | nil => simp [rowsV]
  | cons x l ih =>
    show (enc x ++ rowsV enc l).length = _
    rw [List.length_append, ih, hk, List.length_cons, Nat.add_mul]; omega
theorem rowsV_get {α : Type} {enc : α → List Value} {k : Nat} (hk : ∀ x, (enc x).length = k) (l : List α) : ∀ (j : Nat) (hj : j < l.length) (i : Nat), i < k → (rowsV enc l)[j * k + i]? = (enc l[j])[i]? := by
  induction l with
  | nil => intro j hj; simp at hj
  | cons x l ih =>
    intro j hj i hi
    show (enc x ++ rowsV enc l)[j * k + i]? = _
    cases j with
    | zero =>
      rw [Nat.zero_mul, Nat.zero_add, List.getElem?_append_left (by rw [hk]; exact hi)]
      rfl
    | succ j =>
      rw [List.getElem?_append_right (by rw [hk, Nat.add_mul]; omega), hk, show (j + 1) * k + i - k = j * k + i by rw [Nat.add_mul]; omega]
      exact ih j (by simpa using hj) i hi
theorem rowsV_one {α : Type} {enc : α → List Value} (h1 : ∀ x, ∀ u ∈ enc x, u.oneCell' = true) (l : List α) : ∀ u ∈ rowsV enc l, u.oneCell' = true := by
  intro u hu
  unfold rowsV at hu
  rw [List.mem_flatMap] at hu
  obtain ⟨x, -, hx⟩ := hu
  exact h1 x u hx
theorem fxC_len (x : Fx) : (fxC x).length = 3 := rfl
theorem cxC_len (x : Cx) : (cxC x).length = 4 := rfl
theorem fxC_one (x : Fx) : ∀ u ∈ fxC x, u.oneCell' = true := by
  intro u hu
  simp only [fxC, List.mem_cons, List.not_mem_nil, or_false] at hu
  rcases hu with rfl | rfl | rfl <;> rfl
theorem cxC_one (x : Cx) : ∀ u ∈ cxC x, u.oneCell' = true := by
  intro u hu
  simp only [cxC, List.mem_cons, List.not_mem_nil, or_false] at hu
  rcases hu with rfl | rfl | rfl | rfl <;> rfl
theorem RowsR.news {α : Type} {enc : α → List Value} {k : Nat} (hk : ∀ x, (enc x).length = k) (h0 : 0 < k) {w : World} {ad : Addr} {l : List α} (h : RowsR w (some ad) k enc l) : ∀ j u, (rowsV enc l)[j]? = some u → w.cell? (ad.add j) = some u := by
  intro j u hu
  have hlt : j < l.length * k := by rw [← rowsV_len hk l]; exact (List.getElem?_eq_some_iff.1 hu).1
  have hq : j / k < l.length := Nat.div_lt_of_lt_mul (by rw [Nat.mul_comm]; exact hlt)
  have hr : j % k < k := Nat.mod_lt _ h0
  have e : j / k * k + j % k = j := Nat.div_add_mod' j k
  obtain ⟨b, o, h1, -, h3⟩ := h (j / k) hq
  injection h1 with h1
  subst h1
  rw [add_off, ← e]
  apply h3
  rw [← rowsV_get hk l (j / k) hq (j % k) hr, e]
  exact hu
theorem RowsR.of_own {α : Type} {enc : α → List Value} {k : Nat} (hk : ∀ x, (enc x).length = k) (h0 : 0 < k) {w : World} {base : Nat} {e : TypeId} {n : Nat} {v : Value} {l : List α} (h : w.ownsRow base e k v n (rowsV enc l)) :
    ∃ A c, v = .slice A n c ∧ n = l.length ∧ RowsR w A k enc l ∧ (A = none → c = 0) ∧ (∀ b o, A = some ⟨b, o, none⟩ → base ≤ b ∧ o = 0) ∧ n ≤ c ∧ c ≤ maxLen := by
  have hl : n = l.length := by
    have := h.1
    rw [rowsV_len hk] at this
    exact (Nat.eq_of_mul_eq_mul_right h0 this).symm
  rcases h.2 with ⟨hv, hn⟩ | ⟨g, cap, cur, hv, hb, hh, hnc, hm, _⟩
  · refine ⟨none, 0, by rw [hv, hn], hl, ?_, fun _ => rfl, fun b o h => (by cases h), by omega, by unfold maxLen; omega⟩
    intro j hj
    omega
  · refine ⟨some ⟨g, 0, none⟩, cap, hv, hl, ?_, fun h => (by cases h), fun b o h => ?_, hnc, hm⟩
    · intro j hj
      refine ⟨g, 0, rfl, lt_of_block hh, fun i u hu => ?_⟩
      have hi : i < k := by rw [← hk l[j]]; exact (List.getElem?_eq_some_iff.1 hu).1
      subst hv
      have := h.cells (g := g) rfl (j * k + i) u (by rw [rowsV_get hk l j hj i hi]; exact hu)
      rwa [add_off] at this
    · injection h with h
      injection h with h1 h2 _
      subst h1 h2
      exact ⟨hb, rfl⟩
section
variable {P : Program} {w : World}
theorem run_app0 (t ty e : TypeId) (i : TypeInfo) (ht : P.underlying t = some (.slice e)) (hi : P.info? e = some i) (bs : Option Addr) (n cap : Nat) (hn : n ≤ cap) (A : Option Addr) (c : Nat) :
    (Builtin.append_ #[t, t] ty #[.slice bs n cap, .slice A 0 c]).run P w = .ok (.slice bs n cap) w := by
  cases A with
  | none => cases bs <;> simp [Builtin.append_, run_underlying ht, sizeOf, typeInfo, hi, Builtin.lenOf, Builtin.firstCells, hn, storeCells]
  | some a =>
    have hf := run_firstCells_some (P := P) w i.size 0 a 0 c [] (by simp) (by simp)
    cases bs <;> simp [Builtin.append_, run_underlying ht, sizeOf, typeInfo, hi, Builtin.lenOf, hn, hf, storeCells]
end
def CapR (A : Option Addr) (n c : Nat) : Prop := n ≤ c ∧ c ≤ maxLen ∧ (A = none → c = 0)
section
variable {P : Program} {w : World} {α : Type} {enc : α → List Value} {k : Nat}
end
end Go.Proofs.YtbfimfjhdbpenaaGreatDoor
/- Layer 8: TwinEnv. -/
namespace Go.Proofs.YtbfimfjhdbpenaaGreatDoor
open Go Go.RowKit Go.BigFrame
theorem infoFx : (Tryz.prog.info? 44).map (fun i => (i.zero, i.size, i.bytes)) = some (some (.agg #[.string ⟨#[]⟩, .int .i64 0, .string ⟨#[]⟩]), 3, 40) := by kernel_rfl
theorem infoCx : (Tryz.prog.info? 47).map (fun i => (i.zero, i.size, i.bytes)) = some (some (.agg #[.string ⟨#[]⟩, .string ⟨#[]⟩, .int .i64 0, .bool false]), 4, 48) := by kernel_rfl
section
variable {q R : Nat} {x0 x1 : Value} {w2 w' w'' : World}
end
end Go.Proofs.YtbfimfjhdbpenaaGreatDoor
/- Layer 8: Put of the reference. -/
namespace Go.Proofs.YtbfimfjhdbpenaaGreatDoor
open Go Go.RowKit Go.BigFrame
structure PuB (q0 q1 q2 : Nat) (x0 x1 y0 y1 y2 : Value) (W : World) : Prop where
  e0 : W.cell? ⟨q0, 0, none⟩ = some x0
  e1 : W.cell? ⟨q0, 1, none⟩ = some x1
  f0 : W.cell? ⟨q1, 0, none⟩ = some y0
  f1 : W.cell? ⟨q1, 1, none⟩ = some y1
  f2 : W.cell? ⟨q1, 2, none⟩ = some y2
  r0 : W.cell? ⟨q2, 0, none⟩ = some (.slice none 0 0)
  r1 : W.cell? ⟨q2, 1, none⟩ = some (.slice none 0 0)
theorem PuB.below {q0 q1 q2 : Nat} {x0 x1 y0 y1 y2 : Value} {W W' : World} (h : PuB q0 q1 q2 x0 x1 y0 y1 y2 W) (hb : Below W.heap.size W W') : PuB q0 q1 q2 x0 x1 y0 y1 y2 W' := ⟨cellO hb h.e0, cellO hb h.e1, cellO hb h.f0, cellO hb h.f1, cellO hb h.f2, cellO hb h.r0, cellO hb h.r1⟩
theorem own_setO {w : World} {base : Nat} {e : TypeId} {size : Nat} {v : Value} {n : Nat} {xs : List Value} (h : w.ownsRow base e size v n xs) {p : Addr} (hp : p.block < base) (u : Value) : (w.setCell p u).ownsRow base e size v n xs := by
  refine ⟨h.1, ?_⟩
  rcases h.2 with h0 | ⟨g, cap, cur, hv, hg, hh, r⟩
  · exact .inl h0
  · exact .inr ⟨g, cap, cur, hv, hg, (Below.heap_setCell w p u g (by omega)).trans hh, r⟩
theorem heap_set2O {w : World} {b : Nat} {x y : Value} {t : TypeId} (h : w.heap[b]? = some (.cells #[x, y] t (0, 0))) (u v : Value) :
    ((w.setCell ⟨b, 0, none⟩ u).setCell ⟨b, 1, none⟩ v).heap[b]? = some (.cells #[u, v] t (0, 0)) := sc2_row h
theorem results_row_tmpO {P : Program} {fn : Func} {p q : Tmp} {ty : TypeId} (h : fn.results = #[.cell p ty, .tmp q]) (tmps : Array Value) (w : World) (g : Nat) (t : TypeId) (cs : Array Value) (fr : Nat × Nat) (d : TypeDesc) (u : Value) (hq : tmps.getD q undef = u)
    (hp : tmps.getD p undef = .pointer (some ⟨g, 0, none⟩)) (hg : w.heap[g]? = some (.cells cs t fr))
    (hu : P.underlying ty = some d) (hd : (match d with | .struct _ | .array _ _ => true | _ => false) = true) (hi : (P.info? ty).map (·.size) = some cs.size) :
    (results fn tmps).run P w = .ok (.tuple #[.agg cs, u]) w := by
  subst hq
  have hp' : tmps[p]?.getD undef = .pointer (some ⟨g, 0, none⟩) := by simpa using hp
  simp [results, h, hp', asAddr, run_loadVar_row w g t ty cs fr d hg hu hd hi]
theorem fx_key_eq (n v : ByteArray) (d : Int) (x : Fx) : x.key = Fx.key (n, d, v) ↔ fxP n d x = true := by
  unfold fxP Fx.key
  rw [decide_eq_true_eq]
  constructor
  · intro h
    injection h with _ h
    injection h with h1 h2
    refine ⟨?_, h2⟩
    cases hx : x.1; cases n
    rw [hx] at h1
    exact congrArg ByteArray.mk (Array.toList_inj.1 h1)
  · rintro ⟨rfl, rfl⟩; rfl
end Go.Proofs.YtbfimfjhdbpenaaGreatDoor
/- Layer 8: Put of the reference where it refuses; joined. -/
namespace Go.Proofs.YtbfimfjhdbpenaaGreatDoor
open Go Go.RowKit Go.BigFrame
def putFL (fs : List Fx) (cs : List Cx) (f : Fx) : List Fx := if putFE fs cs f = 0 then insL Fx.key f fs else []
def putFC (fs : List Fx) (cs : List Cx) (f : Fx) : List Cx := if putFE fs cs f = 0 then cs else []
theorem envE_zero {fs : List Fx} {cs : List Cx} (h : envE fs cs = 0) : fs.length ≤ 1000 ∧ cs.length ≤ 1000 ∧ ordB Fx.key Fx.ok fs = true ∧ ordB Cx.key Cx.ok cs = true := by
  unfold envE at h
  split at h
  · cases h
  · next g =>
    split at h
    · next k => rw [Bool.and_eq_true] at k; exact ⟨by omega, by omega, k.1, k.2⟩
    · cases h
end Go.Proofs.YtbfimfjhdbpenaaGreatDoor
/- Layer 8: Choose of the reference, main way. -/
namespace Go.Proofs.YtbfimfjhdbpenaaGreatDoor
open Go Go.RowKit Go.BigFrame
end Go.Proofs.YtbfimfjhdbpenaaGreatDoor
/- Layer 8, plain: what is found after a thing has been put; the order's check. -/
namespace Go.Proofs.YtbfimfjhdbpenaaGreatDoor
open Go Go.RowKit
theorem ordB_of {α : Type} {key : α → Key} {ok : α → Bool} {l : List α} (h : Inc key l) (ho : ∀ z ∈ l, ok z = true) : ordB key ok l = true := by
  rw [ordB_iff]
  intro j hj
  cases j with
  | zero => rw [okJ_zero key ok l hj]; exact ho _ (List.getElem_mem _)
  | succ j => rw [okJ_succ key ok l j hj, ho _ (List.getElem_mem _), h j (j + 1) (by omega) hj]; rfl
theorem ordB_put {α : Type} {key : α → Key} {ok : α → Bool} {l : List α} {x : α} (h : ordB key ok l = true) (hx : ok x = true) : ordB key ok (insL key x l) = true := by
  obtain ⟨h1, h2⟩ := inc_of h
  refine ordB_of (insL_inc h1) fun z hz => ?_
  rcases (mem_insL h1 z).1 hz with e | ⟨e, -⟩
  · rw [e]; exact hx
  · obtain ⟨j, hj, rfl⟩ := List.getElem_of_mem e
    exact h2 j hj
theorem inc_inj {α : Type} {key : α → Key} {l : List α} (h : Inc key l) {a b : α} (ha : a ∈ l) (hb : b ∈ l) (e : key a = key b) : a = b := by
  obtain ⟨i, hi, rfl⟩ := List.getElem_of_mem ha
  obtain ⟨j, hj, rfl⟩ := List.getElem_of_mem hb
  rcases Nat.lt_trichotomy i j with g | g | g
  · have := h i j g hj; rw [e, ltK_irrefl] at this; cases this
  · subst g; rfl
  · have := h j i g hi; rw [e, ltK_irrefl] at this; cases this
theorem find_inc {l : List Fx} (h : Inc Fx.key l) (n : ByteArray) (d : Int) (z : Fx) : l.find? (fxP n d) = some z ↔ z ∈ l ∧ fxP n d z = true := by
  constructor
  · intro g; exact ⟨List.mem_of_find?_eq_some g, List.find?_some g⟩
  · rintro ⟨g1, g2⟩
    cases hf : l.find? (fxP n d) with
    | none => rw [List.find?_eq_none] at hf; exact absurd g2 (hf z g1)
    | some y =>
      have h1 := List.mem_of_find?_eq_some hf
      have h2 := List.find?_some hf
      have := inc_inj h h1 g1 (((fx_key_eq n z.2.2 d y).2 h2).trans ((fx_key_eq n z.2.2 d z).2 g2).symm)
      rw [this]
theorem find_other {l : List Fx} (h : Inc Fx.key l) (f : Fx) (n : ByteArray) (d : Int) (hne : ¬ (f.1 = n ∧ f.2.1 = d)) : (insL Fx.key f l).find? (fxP n d) = l.find? (fxP n d) := by
  have hf : fxP n d f = false := by unfold fxP; rw [decide_eq_false_iff_not]; exact hne
  have key : ∀ z, (insL Fx.key f l).find? (fxP n d) = some z ↔ l.find? (fxP n d) = some z := fun z => by
    rw [find_inc (insL_inc h), find_inc h, mem_insL h]
    constructor
    · rintro ⟨g | ⟨g, -⟩, k⟩
      · rw [g, hf] at k; cases k
      · exact ⟨g, k⟩
    · rintro ⟨g, k⟩
      refine ⟨.inr ⟨g, fun e => ?_⟩, k⟩
      have h1 := (fx_key_eq n f.2.2 d z).2 k
      have h2 := (fx_key_eq n f.2.2 d f).1 (e.symm.trans h1)
      rw [hf] at h2; cases h2
  cases g : l.find? (fxP n d) with
  | some z => exact (key z).2 g
  | none =>
    cases k : (insL Fx.key f l).find? (fxP n d) with
    | none => rfl
    | some z => rw [(key z).1 k] at g; cases g
theorem fnd_other {l : List Fx} (h : Inc Fx.key l) (f : Fx) (n : ByteArray) (d : Int) (hne : ¬ (f.1 = n ∧ f.2.1 = d)) : fndV (insL Fx.key f l) n d = fndV l n d ∧ fndB (insL Fx.key f l) n d = fndB l n d := by
  unfold fndV fndB
  rw [find_other h f n d hne]
  exact ⟨rfl, rfl⟩
end Go.Proofs.YtbfimfjhdbpenaaGreatDoor
/- Layer 8: Choose of the reference where it refuses; joined. -/
namespace Go.Proofs.YtbfimfjhdbpenaaGreatDoor
open Go Go.RowKit Go.BigFrame
end Go.Proofs.YtbfimfjhdbpenaaGreatDoor
/- Layer 8: slices.BinarySearchFunc over fixings, over choices. -/
namespace Go.Proofs.YtbfimfjhdbpenaaGreatDoor
open Go Go.RowKit Go.BigFrame
def SrcR (i : Nat) (b : Bool) (w : World) (e : Ending) (w' : World) : Prop := e = .returned (.tuple #[.int .i64 i, .bool b]) ∧ Below w.heap.size w w'
theorem cmK_lt0 {a b : Key} (h : ltK a b = true) : cmK a b < 0 := (cmK_neg a b).2 h
theorem cmK_ge0 {a b : Key} (h : ltK a b = false) : 0 ≤ cmK a b := by
  rcases Int.lt_or_le (cmK a b) 0 with g | g
  · rw [(cmK_neg a b).1 g] at h; cases h
  · exact g
set_option maxRecDepth 100000 in
set_option maxHeartbeats 3200000 in
theorem searchF_any (n v : ByteArray) (d : Int) (A : Option Addr) (c : Nat) (fs : List Fx) (w : World) (hA : RowsR w A 3 fxC fs) (hl : fs.length ≤ 1000) (hI : Inc Fx.key fs) :
    Calls Tryz.prog 97 #[.slice A fs.length c, .agg #[.string n, .int .i64 d, .string v], .func (.func 56) #[] #[]] w (SrcR (posL Fx.key (n, d, v) fs) (eqAt Fx.key (n, d, v) fs (posL Fx.key (n, d, v) fs)) w) := by
  have hpl := posL_le (key := Fx.key) (x := (n, d, v)) fs
  have hiff := posL_iff (key := Fx.key) (x := (n, d, v)) fs hI
  obtain ⟨eb, heb⟩ : ∃ eb, eqAt Fx.key (n, d, v) fs (posL Fx.key (n, d, v) fs) = eb := ⟨_, rfl⟩
  rw [heb]
  generalize posL Fx.key (n, d, v) fs = p at *
  have HB1 := belO w (.cells #[.string n, .int .i64 d, .string v] 44)
  obtain ⟨w1, hw1⟩ : ∃ w1, w.alloc (.cells #[.string n, .int .i64 d, .string v] 44) = w1 := ⟨_, rfl⟩
  have f0 : w1.cell? ⟨w.heap.size, 0, none⟩ = some (.string n) := by rw [← hw1, World.cell?_alloc_at _ _ _ _ rfl]; rfl
  have f1 : w1.cell? ⟨w.heap.size, 1, none⟩ = some (.int .i64 d) := by rw [← hw1, World.cell?_alloc_at _ _ _ _ rfl]; rfl
  have f2 : w1.cell? ⟨w.heap.size, 2, none⟩ = some (.string v) := by rw [← hw1, World.cell?_alloc_at _ _ _ _ rfl]; rfl
  rw [hw1] at HB1
  have HB := Lib.hid HB1
  have HA := Lib.hid (hA.below HB1)
  have HF := Lib.hid (And.intro f0 (And.intro f1 f2))
  have HIF := Lib.hid hiff
  have HEB := Lib.hid heb
  clear hA hI HB1 hiff heb
  go_enter Tryz.func97, Tryz.ntmps97
  go_wp2_with (fail)
  clear hw1 f0 f1 f2
  go_loopw [9, 10] (fun i j wr => ∃ (lo hi : Nat), lo ≤ p ∧ p ≤ hi ∧ hi ≤ fs.length ∧ i = .int .i64 lo ∧ j = .int .i64 hi ∧ Hid (Below w1.heap.size w1 wr)) (fun i j _ => (intOf j).toNat - (intOf i).toNat)
  case atStart => exact ⟨0, fs.length, by omega, hpl, by omega, rfl, rfl, Below.refl _ _⟩
  case round =>
    obtain ⟨lo, hi, h1, h2, h3, rfl, rfl, HW⟩ := hrel
    obtain ⟨f0, f1, f2⟩ := HF.out
    have t0 := (HW.out.cell (p := ⟨w.heap.size, 0, none⟩) (spot_none f0).2).trans f0
    have t1 := (HW.out.cell (p := ⟨w.heap.size, 1, none⟩) (spot_none f1).2).trans f1
    have t2 := (HW.out.cell (p := ⟨w.heap.size, 2, none⟩) (spot_none f2).2).trans f2
    clear f0 f1 f2
    by_cases hlt : lo < hi
    · obtain ⟨q, hq⟩ : ∃ q, (lo + hi) / 2 = q := ⟨_, rfl⟩
      have hm : q < fs.length := by omega
      have i1 : (lo : Int) < (hi : Int) := by omega
      have i2 : ((lo : Int) + (hi : Int)) / 2 = (q : Int) := by omega
      have i3 : (q : Int) < (fs.length : Int) := by omega
      obtain ⟨bb, o, eA, -, d0, d1, d2⟩ := RowsR.fx (HA.out.below HW.out) hm
      subst eA
      have HQ := Lib.hid (HIF.out _ hm)
      have hq1 : lo ≤ q := by omega
      have hq2 : q < hi := by omega
      generalize fs[q] = x at *
      obtain ⟨xn, xd, xv⟩ := x
      simp only at d0 d1 d2
      obtain ⟨cv, hcv⟩ : ∃ cv, cmK ([], xn.data.toList, xd) ([], n.data.toList, d) = cv := ⟨_, rfl⟩
      have HC : Hid (∀ W, Below wr.heap.size wr W → Calls Tryz.prog 56 #[.agg #[.string xn, .int .i64 xd, .string xv], .agg #[.string n, .int .i64 d, .string v]] W fun e w' => e = .returned (.int .i64 cv) ∧ Below W.heap.size W w') := fun W _ => by rw [← hcv]; exact compareFixings_any xn xv n v xd d W
      have zt0 := fun z : Bel wr => z.cell t0
      have zt1 := fun z : Bel wr => z.cell t1
      have zt2 := fun z : Bel wr => z.cell t2
      have zd0 := fun z : Bel wr => z.cell d0
      have zd1 := fun z : Bel wr => z.cell d1
      have zd2 := fun z : Bel wr => z.cell d2
      cases hk : ltK ([], xn.data.toList, xd) ([], n.data.toList, d)
      · have hp : p ≤ q := by
          rcases Nat.lt_or_ge q p with g | g
          · have h := HQ.out.2 g
            rw [show ltK (Fx.key (xn, xd, xv)) (Fx.key (n, d, v)) = false from hk] at h
            cases h
          · exact g
        have hc0 : ¬ cv < 0 := by have := cmK_ge0 hk; omega
        clear HQ hk hcv hq t0 t1 t2 d0 d1 d2
        go_wp2_with (fail)
        refine wp_region_bel (by kernel_rfl) (by kernel_rfl) ?_
        repeat (go_big_quiet_step (first
          | (go_at_call 56; with_reducible exact Bel.calls HC.out _)))
        refine wpQuiet_nil ?_
        rintro _ ⟨zz, rfl⟩
        have HZW := Lib.hid (btO HW.out zz.2)
        generalize zz.1 = w6 at *
        go_wp2_with (fail)
        go_roundw
        case rel => exact ⟨lo, q, h1, hp, by omega, rfl, rfl, HZW⟩
        case measure => simp [intOf]; omega
      · have hp : q < p := HQ.out.1 hk
        have hc0 : cv < 0 := by have := cmK_lt0 hk; omega
        clear HQ hk hcv hq t0 t1 t2 d0 d1 d2
        go_wp2_with (fail)
        refine wp_region_bel (by kernel_rfl) (by kernel_rfl) ?_
        repeat (go_big_quiet_step (first
          | (go_at_call 56; with_reducible exact Bel.calls HC.out _)))
        refine wpQuiet_nil ?_
        rintro _ ⟨zz, rfl⟩
        have HZW := Lib.hid (btO HW.out zz.2)
        generalize zz.1 = w6 at *
        go_wp2_with (fail)
        go_roundw
        case rel => exact ⟨q + 1, hi, by omega, h2, by omega, by go_num, rfl, HZW⟩
        case measure => simp [intOf]; omega
    · obtain rfl : lo = p := by omega
      obtain rfl : hi = lo := by omega
      by_cases hp : hi < fs.length
      · have i3 : (hi : Int) < (fs.length : Int) := by omega
        obtain ⟨bb, o, eA, -, d0, d1, d2⟩ := RowsR.fx (HA.out.below HW.out) hp
        subst eA
        have he : decide (Fx.key fs[hi] = Fx.key (n, d, v)) = eb := by
          rw [← HEB.out]; unfold eqAt; rw [List.getElem?_eq_getElem hp]
        clear HIF HEB
        generalize fs[hi] = x at *
        obtain ⟨xn, xd, xv⟩ := x
        simp only at d0 d1 d2
        obtain ⟨cv, hcv⟩ : ∃ cv, cmK ([], xn.data.toList, xd) ([], n.data.toList, d) = cv := ⟨_, rfl⟩
        have hz : cv = 0 ↔ Fx.key (xn, xd, xv) = Fx.key (n, d, v) := by rw [← hcv]; exact cmK_zero _ _
        have HC : Hid (∀ W, Below wr.heap.size wr W → Calls Tryz.prog 56 #[.agg #[.string xn, .int .i64 xd, .string xv], .agg #[.string n, .int .i64 d, .string v]] W fun e w' => e = .returned (.int .i64 cv) ∧ Below W.heap.size W w') := fun W _ => by rw [← hcv]; exact compareFixings_any xn xv n v xd d W
        have zt0 := fun z : Bel wr => z.cell t0
        have zt1 := fun z : Bel wr => z.cell t1
        have zt2 := fun z : Bel wr => z.cell t2
        have zd0 := fun z : Bel wr => z.cell d0
        have zd1 := fun z : Bel wr => z.cell d1
        have zd2 := fun z : Bel wr => z.cell d2
        have hcz : (cv == 0) = eb := by
          rw [← he]
          by_cases g : cv = 0
          · rw [decide_eq_true (hz.1 g), g]; rfl
          · rw [decide_eq_false (fun k => g (hz.2 k)), beq_eq_false_iff_ne]; exact g
        clear hz he hcv t0 t1 t2 d0 d1 d2
        go_wp2_with (fail)
        refine wp_region_bel (by kernel_rfl) (by kernel_rfl) ?_
        repeat (go_big_quiet_step (first
          | (go_at_call 56; with_reducible exact Bel.calls HC.out _)))
        refine wpQuiet_nil ?_
        rintro _ ⟨zz, rfl⟩
        have HZW := Lib.hid (btO HW.out zz.2)
        generalize zz.1 = w6 at *
        go_wp2_with (fail)
        go_ret2
        exact ⟨rfl, btO HB.out HZW.out⟩
      · obtain rfl : hi = fs.length := by omega
        have he : eb = false := by
          rw [← HEB.out]; unfold eqAt; rw [List.getElem?_eq_none (Nat.le_refl _)]
        subst he
        clear HIF HEB
        have zt0 := fun z : Bel wr => z.cell t0
        go_wp2_with (fail)
        refine wp_region_bel (by kernel_rfl) (by kernel_rfl) ?_
        repeat (go_big_quiet_step (fail))
        refine wpQuiet_nil ?_
        rintro _ ⟨zz, rfl⟩
        have HZW := Lib.hid (btO HW.out zz.2)
        generalize zz.1 = w6 at *
        go_wp2_with (fail)
        go_ret2
        exact ⟨rfl, btO HB.out HZW.out⟩
end Go.Proofs.YtbfimfjhdbpenaaGreatDoor
/- Layer 8: an environment, a fixing, a choice among a law's arguments, opened. -/
namespace Go.Proofs.YtbfimfjhdbpenaaGreatDoor
open Go Go.RowKit
section
variable {H : Type} {enc : TypeId × Value → H} {W : World}
set_option maxRecDepth 100000 in
theorem open_fx (fuel : Nat) (cs : List Value) (x : DataW H × List MemPlace) (hf : DataW.trod enc Tryz.prog W 0 (fun _ => true) true fuel 44 cs = some x) (hwt : ∀ n ∈ DataW.weights Tryz.prog 44 x.1, n ≤ reachBytes) : ∃ f : Fx, cs = fxC f ∧ f.1.size ≤ 140737488351232 ∧ f.2.2.size ≤ 140737488351232 ∧ -9223372036854775808 ≤ f.2.1 ∧ f.2.1 ≤ 9223372036854775807 := by
  obtain ⟨xs, n, hn, hx, hcl, hlen, hg⟩ := DataW.trod_struct Tryz.underlying44 hf
  have k1 : Tryz.prog.cellsOf 3 = 1 := by kernel_rfl
  have k3 : Tryz.prog.cellsOf 23 = 1 := by kernel_rfl
  have k4 : Tryz.prog.cellsOf 9 = 1 := by kernel_rfl
  have k5 : Tryz.prog.cellsOf 4 = 1 := by kernel_rfl
  have k6 : Tryz.prog.cellsOf 44 = 3 := by kernel_rfl
  rw [k6] at hcl
  obtain ⟨c0, c1, c2, rfl⟩ : ∃ c0 c1 c2, cs = [c0, c1, c2] := by
    match cs, hcl with
    | [c0, c1, c2], _ => exact ⟨c0, c1, c2, rfl⟩
  obtain ⟨y0, y1, y2, rfl⟩ : ∃ y0 y1 y2, xs = [y0, y1, y2] := by
    match xs, hlen with
    | [y0, y1, y2], _ => exact ⟨y0, y1, y2, rfl⟩
  have g0 : DataW.trod enc Tryz.prog W 0 (fun _ => true) true n 9 [c0] = some y0 := by simpa [k1, k3, k4, k5] using hg 0 _ rfl
  have g1 : DataW.trod enc Tryz.prog W 0 (fun _ => true) true n 3 [c1] = some y1 := by simpa [k1, k3, k4, k5] using hg 1 _ rfl
  have g2 : DataW.trod enc Tryz.prog W 0 (fun _ => true) true n 23 [c2] = some y2 := by simpa [k1, k3, k4, k5] using hg 2 _ rfl
  clear hg hf
  have hwe : ∀ (j : Nat) (t : TypeId) (d : DataW H), ([9, 3, 23] : List TypeId)[j]? = some t → ([y0.1, y1.1, y2.1] : List (DataW H))[j]? = some d → ∀ n ∈ d.weights Tryz.prog t, n ≤ reachBytes := by
    intro j t d ht hd n hn
    refine hwt n ?_
    rw [hx]
    show n ∈ DataW.weights Tryz.prog 44 (.agg [y0.1, y1.1, y2.1])
    rw [DataW.weights, Tryz.underlying44]
    exact DataW.weights_mem_each ht hd n hn
  clear hwt
  obtain ⟨s0, h0, x0, w0⟩ := DataW.trod_string Tryz.underlying9 g0
  obtain rfl : c0 = .string s0 := by simpa using h0
  have w0 : s0.size ≤ 140737488351232 := by
    have := hwe 0 _ _ rfl rfl s0.data.toList.length (by rw [x0]; exact w_strO s0)
    exact Nat.le_trans (Nat.le_of_eq (size_lenO s0)) (Nat.le_trans this (by decide))
  obtain ⟨s1, h1, -, w1⟩ := DataW.trod_int Tryz.underlying3 g1
  obtain rfl : c1 = .int .i64 s1 := by simpa using h1
  have b1 := bounds_i64 w1
  obtain ⟨s2, h2, x2, w2⟩ := DataW.trod_string Tryz.underlying23 g2
  obtain rfl : c2 = .string s2 := by simpa using h2
  have w2 : s2.size ≤ 140737488351232 := by
    have := hwe 2 _ _ rfl rfl s2.data.toList.length (by rw [x2]; exact w_strO s2)
    exact Nat.le_trans (Nat.le_of_eq (size_lenO s2)) (Nat.le_trans this (by decide))
  exact ⟨(s0, s1, s2), rfl, w0, w2, b1.1, b1.2⟩
set_option maxRecDepth 100000 in
theorem open_cx (fuel : Nat) (cs : List Value) (x : DataW H × List MemPlace) (hf : DataW.trod enc Tryz.prog W 0 (fun _ => true) true fuel 47 cs = some x) (hwt : ∀ n ∈ DataW.weights Tryz.prog 47 x.1, n ≤ reachBytes) : ∃ f : Cx, cs = cxC f ∧ f.1.size ≤ 140737488351232 ∧ f.2.1.size ≤ 140737488351232 := by
  obtain ⟨xs, n, hn, hx, hcl, hlen, hg⟩ := DataW.trod_struct Tryz.underlying47 hf
  have k1 : Tryz.prog.cellsOf 3 = 1 := by kernel_rfl
  have k3 : Tryz.prog.cellsOf 23 = 1 := by kernel_rfl
  have k4 : Tryz.prog.cellsOf 9 = 1 := by kernel_rfl
  have k5 : Tryz.prog.cellsOf 4 = 1 := by kernel_rfl
  have k6 : Tryz.prog.cellsOf 47 = 4 := by kernel_rfl
  rw [k6] at hcl
  obtain ⟨c0, c1, c2, c3, rfl⟩ : ∃ c0 c1 c2 c3, cs = [c0, c1, c2, c3] := by
    match cs, hcl with
    | [c0, c1, c2, c3], _ => exact ⟨c0, c1, c2, c3, rfl⟩
  obtain ⟨y0, y1, y2, y3, rfl⟩ : ∃ y0 y1 y2 y3, xs = [y0, y1, y2, y3] := by
    match xs, hlen with
    | [y0, y1, y2, y3], _ => exact ⟨y0, y1, y2, y3, rfl⟩
  have g0 : DataW.trod enc Tryz.prog W 0 (fun _ => true) true n 9 [c0] = some y0 := by simpa [k1, k3, k4, k5] using hg 0 _ rfl
  have g1 : DataW.trod enc Tryz.prog W 0 (fun _ => true) true n 9 [c1] = some y1 := by simpa [k1, k3, k4, k5] using hg 1 _ rfl
  have g2 : DataW.trod enc Tryz.prog W 0 (fun _ => true) true n 3 [c2] = some y2 := by simpa [k1, k3, k4, k5] using hg 2 _ rfl
  have g3 : DataW.trod enc Tryz.prog W 0 (fun _ => true) true n 4 [c3] = some y3 := by simpa [k1, k3, k4, k5] using hg 3 _ rfl
  clear hg hf
  have hwe : ∀ (j : Nat) (t : TypeId) (d : DataW H), ([9, 9, 3, 4] : List TypeId)[j]? = some t → ([y0.1, y1.1, y2.1, y3.1] : List (DataW H))[j]? = some d → ∀ n ∈ d.weights Tryz.prog t, n ≤ reachBytes := by
    intro j t d ht hd n hn
    refine hwt n ?_
    rw [hx]
    show n ∈ DataW.weights Tryz.prog 47 (.agg [y0.1, y1.1, y2.1, y3.1])
    rw [DataW.weights, Tryz.underlying47]
    exact DataW.weights_mem_each ht hd n hn
  clear hwt
  obtain ⟨s0, h0, x0, w0⟩ := DataW.trod_string Tryz.underlying9 g0
  obtain rfl : c0 = .string s0 := by simpa using h0
  have w0 : s0.size ≤ 140737488351232 := by
    have := hwe 0 _ _ rfl rfl s0.data.toList.length (by rw [x0]; exact w_strO s0)
    exact Nat.le_trans (Nat.le_of_eq (size_lenO s0)) (Nat.le_trans this (by decide))
  obtain ⟨s1, h1, x1, w1⟩ := DataW.trod_string Tryz.underlying9 g1
  obtain rfl : c1 = .string s1 := by simpa using h1
  have w1 : s1.size ≤ 140737488351232 := by
    have := hwe 1 _ _ rfl rfl s1.data.toList.length (by rw [x1]; exact w_strO s1)
    exact Nat.le_trans (Nat.le_of_eq (size_lenO s1)) (Nat.le_trans this (by decide))
  obtain ⟨s2, h2, -, w2⟩ := DataW.trod_int Tryz.underlying3 g2
  obtain rfl : c2 = .int .i64 s2 := by simpa using h2
  have b2 := bounds_i64 w2
  obtain ⟨s3, h3, -⟩ := DataW.trod_bool Tryz.underlying4 g3
  obtain rfl : c3 = .bool s3 := by simpa using h3
  exact ⟨(s0, s1, s2, s3), rfl, w0, w1⟩
set_option maxRecDepth 100000 in
theorem open_rows {α : Type} [Inhabited α] {encA : α → List Value} {k : Nat} (hk : ∀ x, (encA x).length = k) (h0 : 0 < k) {S e : TypeId} (hS : Tryz.prog.underlying S = some (.slice e)) (hc : Tryz.prog.cellsOf e = k) (hby : 1 ≤ Tryz.prog.bytesOf e) (ok : α → Prop)
    (hel : ∀ fuel cs (x : DataW H × List MemPlace), DataW.trod enc Tryz.prog W 0 (fun _ => true) true fuel e cs = some x → (∀ n ∈ DataW.weights Tryz.prog e x.1, n ≤ reachBytes) → ∃ f : α, cs = encA f ∧ ok f)
    (fuel : Nat) (c : Value) (x : DataW H × List MemPlace) (hf : DataW.trod enc Tryz.prog W 0 (fun _ => true) true fuel S [c] = some x) (hwt : ∀ n ∈ DataW.weights Tryz.prog S x.1, n ≤ reachBytes) :
    ∃ A l cap, c = .slice A l.length cap ∧ RowsR W A k encA l ∧ l.length ≤ cap ∧ cap ≤ 140737488351232 ∧ (A = none → cap = 0) ∧ ∀ f ∈ l, ok f := by
  rcases DataW.trod_slice hS hf with ⟨h4, -⟩ | ⟨a, len, cap, elems, rest, n2, hn2, h4, x4, -, hlc, -, hel2, hget, hsp, -⟩
  · obtain rfl : c = .slice none 0 0 := by simpa using h4
    exact ⟨none, [], 0, rfl, RowsR.nil, Nat.le_refl _, Nat.zero_le _, fun _ => rfl, by simp⟩
  · obtain rfl : c = .slice (some a) len cap := by simpa using h4
    rw [hc] at hget
    rw [x4, DataW.weights, hS] at hwt
    have hcm : cap ≤ 140737488351232 := by
      have h1 := hwt _ (List.mem_cons_self ..)
      rw [List.length_map, List.length_map, hel2, (hsp rfl).1] at h1
      have h2 : reachBytes = 140737488351232 := rfl
      have h3 : (len + (cap - len)) * 1 ≤ (len + (cap - len)) * Tryz.prog.bytesOf e := Nat.mul_le_mul_left _ hby
      omega
    have hE : ∀ i, i < len → ∃ T : α, (∃ cs, W.cells? 0 (a.add (i * k)) k = some cs ∧ cs = encA T) ∧ ok T := by
      intro i hi
      have := hget i hi
      rw [List.getElem?_eq_getElem (by omega)] at this
      obtain ⟨cs', q1, q2⟩ := Option.bind_eq_some_iff.1 this
      obtain ⟨T, e, hT⟩ := hel n2 cs' _ q2 (fun n hn => hwt n (by
        refine List.mem_cons_of_mem _ (List.mem_append_left _ (weightsAll_mem hn _ ?_))
        exact List.mem_map_of_mem (List.getElem_mem _)))
      exact ⟨T, ⟨cs', q1, e⟩, hT⟩
    obtain ⟨F, hF⟩ := Deep.choose_lt hE
    have hl : ((List.range len).map F).length = len := by simp
    refine ⟨some a, (List.range len).map F, cap, by rw [hl], fun j hj => ?_, by rw [hl]; exact hlc, hcm, fun h => (by cases h), fun f hf => ?_⟩
    · rw [hl] at hj
      have hj' : ((List.range len).map F)[j]'(by rw [hl]; exact hj) = F j := by simp
      rw [hj']
      obtain ⟨⟨cs', q1, rfl⟩, -⟩ := hF j hj
      have hcc : ∀ i v, (encA (F j))[i]? = some v → W.cell? ((a.add (j * k)).add i) = some v := fun i v hv => by
        obtain ⟨-, hl2, hc2⟩ := World.cells?_some q1
        have hi : i < k := by
          rw [← hl2]
          exact (List.getElem?_eq_some_iff.1 hv).1
        rw [hc2 i hi]; exact hv
      have hsp : a.spot = none := by
        obtain ⟨⟨cs0, z1, rfl⟩, -⟩ := hF 0 (by omega)
        obtain ⟨-, -, z2⟩ := World.cells?_some z1
        have z3 := z2 0 h0
        rw [Nat.zero_mul] at z3
        have z4 : ∃ v, (encA (F 0))[0]? = some v := ⟨_, List.getElem?_eq_getElem (by rw [hk]; exact h0)⟩
        obtain ⟨v, z4⟩ := z4
        rw [z4] at z3
        exact (spot_none z3).1
      obtain ⟨b, o, p⟩ := a
      simp only at hsp
      subst hsp
      have hb : b < W.heap.size := by
        obtain ⟨v, z4⟩ : ∃ v, (encA (F j))[0]? = some v := ⟨_, List.getElem?_eq_getElem (by rw [hk]; exact h0)⟩
        have := (spot_none (hcc 0 v z4)).2
        rw [add_off, add_off] at this
        exact this
      refine ⟨b, o, rfl, hb, fun i v hv => ?_⟩
      have := hcc i v hv
      rw [add_off, add_off] at this
      rw [← this, Nat.add_assoc]
    · rw [List.mem_map] at hf
      obtain ⟨i, hi, rfl⟩ := hf
      exact (hF i (List.mem_range.1 hi)).2
set_option maxRecDepth 100000 in
theorem open_env (fuel : Nat) (cs : List Value) (x : DataW H × List MemPlace) (hf : DataW.trod enc Tryz.prog W 0 (fun _ => true) true fuel 38 cs = some x) (hwt : ∀ n ∈ DataW.weights Tryz.prog 38 x.1, n ≤ reachBytes) :
    ∃ E : Ev, cs = [.slice E.fA E.fs.length E.fc, .slice E.cA E.cs.length E.cc] ∧ E.In W ∧ CapR E.fA E.fs.length E.fc ∧ CapR E.cA E.cs.length E.cc := by
  obtain ⟨xs, n, hn, hx, hcl, hlen, hg⟩ := DataW.trod_struct Tryz.underlying38 hf
  have k1 : Tryz.prog.cellsOf 35 = 1 := by kernel_rfl
  have k2 : Tryz.prog.cellsOf 36 = 1 := by kernel_rfl
  have k6 : Tryz.prog.cellsOf 38 = 2 := by kernel_rfl
  rw [k6] at hcl
  obtain ⟨c0, c1, rfl⟩ : ∃ c0 c1, cs = [c0, c1] := by
    match cs, hcl with
    | [c0, c1], _ => exact ⟨c0, c1, rfl⟩
  obtain ⟨y0, y1, rfl⟩ : ∃ y0 y1, xs = [y0, y1] := by
    match xs, hlen with
    | [y0, y1], _ => exact ⟨y0, y1, rfl⟩
  have g0 : DataW.trod enc Tryz.prog W 0 (fun _ => true) true n 35 [c0] = some y0 := by simpa [k1, k2] using hg 0 _ rfl
  have g1 : DataW.trod enc Tryz.prog W 0 (fun _ => true) true n 36 [c1] = some y1 := by simpa [k1, k2] using hg 1 _ rfl
  have hwe : ∀ (j : Nat) (t : TypeId) (d : DataW H), ([35, 36] : List TypeId)[j]? = some t → ([y0.1, y1.1] : List (DataW H))[j]? = some d → ∀ n ∈ d.weights Tryz.prog t, n ≤ reachBytes := by
    intro j t d ht hd n hn
    refine hwt n ?_
    rw [hx]
    show n ∈ DataW.weights Tryz.prog 38 (.agg [y0.1, y1.1])
    rw [DataW.weights, Tryz.underlying38]
    exact DataW.weights_mem_each ht hd n hn
  haveI : Inhabited Fx := ⟨(⟨#[]⟩, 0, ⟨#[]⟩)⟩
  haveI : Inhabited Cx := ⟨(⟨#[]⟩, ⟨#[]⟩, 0, false)⟩
  obtain ⟨A, l, cap, rfl, r1, r2, r3, r4, r5⟩ := open_rows fxC_len (by decide) Tryz.underlying35 (by kernel_rfl) (by decide +kernel) _ (fun fu cs x h hw => open_fx fu cs x h hw) n c0 y0 g0 (hwe 0 _ _ rfl rfl)
  obtain ⟨A2, l2, cap2, rfl, q1, q2, q3, q4, q5⟩ := open_rows cxC_len (by decide) Tryz.underlying36 (by kernel_rfl) (by decide +kernel) _ (fun fu cs x h hw => open_cx fu cs x h hw) n c1 y1 g1 (hwe 1 _ _ rfl rfl)
  exact ⟨⟨A, l, cap, A2, l2, cap2⟩, rfl, ⟨r1, q1, Nat.le_trans r2 r3, Nat.le_trans q2 q3, fun f hf => ⟨(r5 f hf).1, (r5 f hf).2.1⟩, fun c hc => q5 c hc⟩, ⟨r2, by unfold maxLen; show cap ≤ _; omega, r4⟩, ⟨q2, by unfold maxLen; show cap2 ≤ _; omega, q4⟩⟩
end
end Go.Proofs.YtbfimfjhdbpenaaGreatDoor
/- Layer 8: the arguments of the laws, opened; the variables that the rows lay. -/
namespace Go.Proofs.YtbfimfjhdbpenaaGreatDoor
open Go Go.ChangeShapes Go.WideShapes Go.ChangeAt Go.RowKit
theorem hwt_of {H : Type} {P : Program} {ts : List TypeId} {ds : List (DataW H)} (hsz : (DataW.weightsEach P ts ds).all (· ≤ reachBytes) = true) {j : Nat} {t : TypeId} {d : DataW H} (hj : ts[j]? = some t) (hd : ds[j]? = some d) : ∀ n ∈ DataW.weights P t d, n ≤ reachBytes := fun n hn =>
  of_decide_eq_true (List.all_eq_true.1 hsz _ (DataW.weights_mem_each hj hd n hn))
section
variable {H : Type} {enc : TypeId × Value → H} {W : World} {v : Value} {d : DataW H} {p : List MemPlace} {r : Reach} {b0 : Nat} {ts : List TypeId} {ds : List (DataW H)} (hsz : (DataW.weightsEach Tryz.prog ts ds).all (· ≤ reachBytes) = true) {j : Nat} (hd : ds[j]? = some d)
include hsz hd
set_option maxRecDepth 100000 in
theorem open_expr (hv : Value.okWide Tryz.prog W r b0 26 v) (h : DataW.Trod enc Tryz.prog W 0 (fun _ => true) true 26 v d p) (hj : ts[j]? = some 26) : ∃ T : Ex, v = T.val ∧ T.In W := by
  obtain ⟨cs, rfl, -⟩ := okWide_struct Tryz.underlying26 hv
  obtain ⟨fuel, hf⟩ := h
  obtain ⟨T, e, hT⟩ := open_exF fuel _ _ hf (hwt_of hsz hj hd)
  refine ⟨T, ?_, hT⟩
  have e : cs.toList = T.cel := e
  rw [show cs = T.cel.toArray by rw [← e]]
  rfl
set_option maxRecDepth 100000 in
theorem open_envA (hv : Value.okWide Tryz.prog W r b0 38 v) (h : DataW.Trod enc Tryz.prog W 0 (fun _ => true) true 38 v d p) (hj : ts[j]? = some 38) : ∃ E : Ev, v = E.val ∧ E.In W ∧ CapR E.fA E.fs.length E.fc ∧ CapR E.cA E.cs.length E.cc := by
  obtain ⟨cs, rfl, -⟩ := okWide_struct Tryz.underlying38 hv
  obtain ⟨fuel, hf⟩ := h
  obtain ⟨E, e, hE⟩ := open_env fuel _ _ hf (hwt_of hsz hj hd)
  refine ⟨E, ?_, hE⟩
  have e : cs.toList = [.slice E.fA E.fs.length E.fc, .slice E.cA E.cs.length E.cc] := e
  rw [show cs = [.slice E.fA E.fs.length E.fc, .slice E.cA E.cs.length E.cc].toArray by rw [← e]]
set_option maxRecDepth 100000 in
theorem open_fxA (hv : Value.okWide Tryz.prog W r b0 44 v) (h : DataW.Trod enc Tryz.prog W 0 (fun _ => true) true 44 v d p) (hj : ts[j]? = some 44) : ∃ (n : ByteArray) (z : Int) (u : ByteArray), v = .agg #[.string n, .int .i64 z, .string u] ∧ n.size ≤ 140737488351232 ∧ u.size ≤ 140737488351232 ∧ -9223372036854775808 ≤ z ∧ z ≤ 9223372036854775807 := by
  obtain ⟨cs, rfl, -⟩ := okWide_struct Tryz.underlying44 hv
  obtain ⟨fuel, hf⟩ := h
  obtain ⟨f, e, h1, h2, h3⟩ := open_fx fuel _ _ hf (hwt_of hsz hj hd)
  refine ⟨f.1, f.2.1, f.2.2, ?_, h1, h2, h3⟩
  have e : cs.toList = [.string f.1, .int .i64 f.2.1, .string f.2.2] := e
  rw [show cs = [.string f.1, .int .i64 f.2.1, .string f.2.2].toArray by rw [← e]]
end
theorem obvar_Local {W : World} (h : laidMetH Tryz.prog Rows.observableLocalRow.laid W) (hs : W.ShapedOpen Tryz.prog) : VarR W := by -- 8
  rw [MakeChecks.laidMetH_plain _ _ _ (by kernel_rfl)] at h
  have h1 : laidMet Tryz.prog _ W := h.tail
  have t1 : Lib.TabIs Tryz.prog W "math/bits.deBruijn64tab" .u8 db64 := Lib.tabIs_of_head gDb64 (t := 249) (by kernel_rfl) Tryz.underlying249 Tryz.underlying5 (by kernel_rfl) (by kernel_rfl) h1
  have c1 := t1.cell gDb64 0 (by decide)
  have h2 := h1.tail
  have t2 : Lib.TabIs Tryz.prog W "internal/strconv.uint64pow10" .u64 Lib.pow10Tab := Lib.tabIs_of_head gTab (t := 244) (by kernel_rfl) Tryz.underlying244 Tryz.underlying212 (by kernel_rfl) (by kernel_rfl) h2
  exact varr_of ⟨by have := lt_of_cell c1; omega, t2⟩ hs
end Go.Proofs.YtbfimfjhdbpenaaGreatDoor
