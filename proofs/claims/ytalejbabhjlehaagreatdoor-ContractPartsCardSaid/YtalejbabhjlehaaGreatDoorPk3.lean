/- Layer 9: loops over iterators that are themselves made of such loops, and that keep variables of their own: what an iterator gives, and the loop's law. -/
import Derived.Test.YtalejbabhjlehaaGreatDoorPk1
import Derived.RangeFuncNested
import Derived.RangeFuncBound
import Derived.RangeFuncCalls
import Derived.RangeFuncLeaves
import Derived.RangeFuncBox
namespace Go.Proofs.YtalejbabhjlehaaGreatDoor
open Go Go.RowKit
structure Step (n₀ B : Nat) (x : Option Nat) (W W' : World) : Prop where
  below : Below n₀ W W'
  above : ∀ k o, B ≤ k → some k ≠ x → W.heap[k]? = some o → (∀ cs fr, o ≠ .cells cs 9 fr) → W'.heap[k]? = some o
theorem ne_str {cs : Array Value} {ty : TypeId} {fr : Nat × Nat} (h : ty ≠ 9) (cs' : Array Value) (fr' : Nat × Nat) : Obj.cells cs ty fr ≠ .cells cs' 9 fr' := fun e => h (by injection e)
theorem Step.refl (n₀ B : Nat) (x : Option Nat) (W : World) : Step n₀ B x W W := ⟨Below.refl _ _, fun _ _ _ _ h _ => h⟩
theorem Step.trans {n₀ B : Nat} {x : Option Nat} {X Y Z : World} (h : Step n₀ B x X Y) (k : Step n₀ B x Y Z) : Step n₀ B x X Z := ⟨h.below.trans k.below, fun i o hB hx hi ho => k.above i o hB hx (h.above i o hB hx hi ho) ho⟩
theorem Step.toX {n₀ B : Nat} (x : Option Nat) {W W' : World} (h : Step n₀ B none W W') : Step n₀ B x W W' := ⟨h.below, fun k o hk _ hl ho => h.above k o hk (fun e => by cases e) hl ho⟩
theorem Step.ofX {n₀ B l : Nat} {W W' : World} (h : Step n₀ B (some l) W W') : Step n₀ (max B (l + 1)) none W W' := ⟨h.below, fun k o hk _ hl ho => h.above k o (by omega) (fun e => by cases e; omega) hl ho⟩
theorem Step.of_below {n₀ B : Nat} {x : Option Nat} {W W' : World} (h : Below W.heap.size W W') (hn : n₀ ≤ W.heap.size) : Step n₀ B x W W' := ⟨h.mono hn, fun k o _ _ hk _ => (h.block k (Array.getElem?_eq_some_iff.1 hk).1).trans hk⟩
theorem Step.setCell {n₀ B : Nat} {x : Option Nat} {W : World} {p : Addr} (hp : n₀ ≤ p.block) (hq : p.block < B) (u : Value) : Step n₀ B x W (W.setCell p u) := ⟨(Below.refl n₀ W).setCell hp u, fun k o hk _ hl _ => (Below.heap_setCell _ _ _ k (by omega)).trans hl⟩
theorem Step.putObj {n₀ B l : Nat} {W : World} (o' : Obj) (hn : n₀ ≤ l) (hl : l < W.heap.size) : Step n₀ B (some l) W (W.putObj l o') :=
  ⟨(Below.refl n₀ W).grown (grownBy_putObj' W l o') (by omega) (fun k e => by cases e; omega), fun k o hk hx hw _ => ((grownBy_putObj' W l o').block k (Array.getElem?_eq_some_iff.1 hw).1 hx).trans hw⟩
theorem Step.alloc {n₀ B : Nat} {x : Option Nat} {W : World} (o : Obj) (hn : n₀ ≤ W.heap.size) : Step n₀ B x W (W.alloc o) := .of_below ((Below.refl _ W).alloc (Nat.le_refl _) o) hn
theorem Step.same {n₀ B k : Nat} {x : Option Nat} {W W' : World} {o : Obj} (h : Step n₀ B x W W') (hB : B ≤ k) (hx : some k ≠ x) (ho : ∀ cs fr, o ≠ .cells cs 9 fr) (hk : W.heap[k]? = some o) : W'.heap[k]? = some o := h.above k o hB hx hk ho
theorem Step.boxed {n₀ B k : Nat} {x : Option Nat} {W W' : World} {t : TypeId} {v : Value} (h : Step n₀ B x W W') (hB : B ≤ k) (hx : some k ≠ x) (ht : t ≠ 9) (hk : Boxed W k t v) : Boxed W' k t v := h.same hB hx (ne_str ht) hk
def Hands {α : Type} (F : Fence) (P : Program) (g : Nat) (lb : Array Value) (encs : α → Array Value) (n₀ B : Nat) (xs : List α) (w : World) : Prop :=
  ∀ (n l : Nat) (J Jx : List α → World → Prop) (W : World), Below w.heap.size w W → w.heap.size ≤ l → l < W.heap.size → OwnFrom W.heap.size J → OwnFrom W.heap.size Jx →
    (∀ m pre x W1, pre ++ [x] <+: xs → J pre W1 → YieldAt F m P l (encs x) W1 fun e W' =>
      ((e = .returned (.bool true) ∧ J (pre ++ [x]) W') ∨ (e = .returned (.bool false) ∧ Jx (pre ++ [x]) W')) ∧ Step n₀ B (some l) W1 W') →
    J [] W →
    CallsIn F n P g (#[.func (.yield l) #[] #[]] ++ lb) W fun e W' => (∃ v, e = .returned v) ∧ (J xs W' ∨ ∃ pre, pre <+: xs ∧ Jx pre W')
theorem Hands.inRound {α : Type} {F : Fence} {P : Program} {g : Nat} {lb : Array Value} {encs : α → Array Value} {n₀ B : Nat} {xs : List α} {w : World} (l : Nat) (h : Hands F P g lb encs n₀ B xs w) : Hands (F.inRound l) P g lb encs n₀ B xs w := h
def bodyQ {α : Type} (n₀ B : Nat) (I : List α → World → Prop) (Ix : Code → List α → World → Prop) (xs : List α) (W : World) : Exit → Act → World → Prop
  | .normal, _, W' => Step n₀ B none W W' ∧ I xs W'
  | .ret, _, W' => Step n₀ B none W W' ∧ Ix .ret xs W'
  | .exit id, _, W' => Step n₀ B none W W' ∧ Ix (.exit id) xs W'
  | .goto t, _, W' => Step n₀ B none W W' ∧ Ix (.goto t) xs W'
  | .panic _, _, _ => False
  | .outgrown, _, _ => False
variable {F : Fence} {n : Nat} {P : Program}
theorem lp_same {W W' : World} {row : Option Nat} {B k : Nat} {o : Obj} (hg : W.grownBy W' row) (hr : ∀ r, row = some r → B ≤ r ∧ ∃ o : Obj, W.heap[r]? = some o ∧ o.isCells = false) (hk : k < B) (h : W.heap[k]? = some o) : W'.heap[k]? = some o :=
  (hg.block k (Array.getElem?_eq_some_iff.1 h).1 (fun e => by have := (hr k e.symm).1; omega)).trans h
theorem wpIn_hands_core {α : Type} {g : Operand} {ps : Array Tmp} {assign body : Code} {Q : Exit → Act → World → Prop} {a : Act} {w : World}
    (hd : F.depth = none) {gf : Nat} {lb : Array Value} (hg : a.eval g = .func (.func gf) #[] lb) (hFg : F.fn gf) (eg : ∀ args w, (callFunc gf args).run P w = .ok (.enter gf args) w)
    {encs : α → Array Value} {n₀ B : Nat} {xs : List α} {w0 : World} (hseq : Hands F P gf lb encs n₀ B xs w0) (hb0 : Below w0.heap.size w0 w) (hn₀ : n₀ ≤ w.heap.size) (hB : B ≤ w.heap.size) (hps : ∀ x, (encs x).size = ps.size)
    (I : List α → World → Prop) (Ix : Code → List α → World → Prop) (hI : OwnFrom w.heap.size I) (hIx : ∀ c, OwnFrom w.heap.size (Ix c)) (Ax : α → Act → World → Prop) (hAx : ∀ x a', OwnFrom w.heap.size (fun (_ : Unit) W => Ax x a' W))
    (hassign : ∀ (l : Nat) (pre : List α) (x : α) (W : World) (K : Act → World → Prop), I pre W → n₀ ≤ W.heap.size → (∀ a' W', Step n₀ B none W W' → I pre W' → Ax x a' W' → K a' W') →
      assign.wpIn (F.inRound l) n P (Exit.then K (fun _ _ _ => False)) { tmps := (ps.zip (encs x)).foldl (fun t (p, v) => t.setIfInBounds p v) a.tmps, defers := [] } W)
    (hbody : ∀ (l : Nat) (pre : List α) (x : α) (a' : Act) (W : World), w.heap.size ≤ l → (∃ r, W.heap[l]? = some (.loop r)) → I pre W → Ax x a' W → pre ++ [x] <+: xs → body.wpIn (F.inRound l) n P (bodyQ n₀ B I Ix (pre ++ [x]) W) a' W)
    (D : Option Nat) (l : Nat) (mark : List Deferred) (hl : w.heap.size ≤ l) (hD : ∀ d, D = some d → w.heap.size ≤ d ∧ d ≠ l)
    (hent : ∀ fn, ∃ W1 db, (Instr.enterLoop fn a.tmps ps assign body F.round).run P w = .ok (l, mark) W1 ∧ W1.heap[l]? = some (.loop { state := .ready, pending := none, fn, tmps := a.tmps, params := ps, assign, body, defers := db }) ∧ (∀ d, D = some d → W1.heap[d]? = some (.deferred (some []))) ∧ Below w.heap.size w W1 ∧ I [] W1)
    (hdone : ∀ (W : World), I xs W → (∀ d, D = some d → W.heap[d]? = some (.deferred (some []))) → Q .normal { a with defers := mark ++ a.defers } W)
    (hstop : ∀ (c : Code) (pre : List α) (W : World), pre <+: xs → Ix c pre W → (∀ d, D = some d → W.heap[d]? = some (.deferred (some []))) → c.wpIn F n P Q { a with defers := mark ++ a.defers } W) :
    (Code.rangeFunc g ps assign body).wpIn F n P Q a w := by
  have hroom : ∀ k : Nat, F.room k := fun k d h => by rw [hd] at h; cases h
  refine wpIn_rangeFunc fun fn hfn => ?_
  obtain ⟨W1, db, he, hr1, hd1, hb1, hI1⟩ := hent fn
  let rec' : LoopState → Option Code → Loop := fun st pe => { state := st, pending := pe, fn, tmps := a.tmps, params := ps, assign, body, defers := db }
  have hlt1 : l < W1.heap.size := (Array.getElem?_eq_some_iff.1 hr1).1
  have hdt1 : ∀ d, D = some d → d < W1.heap.size := fun d e => (Array.getElem?_eq_some_iff.1 (hd1 d e)).1
  refine ⟨l, mark, W1, { target := .fn (.func gf) lb, args := #[.func (.yield l) #[] #[]] }, W1, gf, #[.func (.yield l) #[] #[]] ++ lb, W1, he, ?_, ?_, ?_, (fun h => by rw [hd] at h; cases h), ?_⟩
  · simp only [resolve, hg]
    simp [go_sem]
  · intro f' hf'; simp [Target.leads] at hf'; subst hf'; exact hFg
  · simp [invoke, go_sem, eg]
  have putD : ∀ {W : World} {o : Obj} {d : Nat}, D = some d → W.heap[d]? = some (.deferred (some [])) → (W.putObj l o).heap[d]? = some (.deferred (some [])) := fun e k => (World.putObj_heap_other (hD _ e).2).trans k
  refine (hseq (n - 1) l
    (fun pre W => I pre W ∧ W.heap[l]? = some (.loop (rec' .ready none)) ∧ ∀ d, D = some d → W.heap[d]? = some (.deferred (some [])))
    (fun pre W => ∃ c, Ix c pre W ∧ W.heap[l]? = some (.loop (rec' .done (some c))) ∧ ∀ d, D = some d → W.heap[d]? = some (.deferred (some [])))
    W1 (hb0.trans (hb1.mono hb0.size)) (Nat.le_trans hb0.size hl) hlt1 ?_ ?_ ?_ ⟨hI1, hr1, hd1⟩).mono ?_
  · rintro s A B row ⟨h1, h2, h3⟩ hg' hr
    exact ⟨hI s A B row h1 hg' (fun r e => ⟨Nat.le_trans hb1.size (hr r e).1, (hr r e).2⟩), lp_same hg' hr hlt1 h2, fun d e => lp_same hg' hr (hdt1 d e) (h3 d e)⟩
  · rintro s A B row ⟨c, h1, h2, h3⟩ hg' hr
    exact ⟨c, hIx c s A B row h1 hg' (fun r e => ⟨Nat.le_trans hb1.size (hr r e).1, (hr r e).2⟩), lp_same hg' hr hlt1 h2, fun d e => lp_same hg' hr (hdt1 d e) (h3 d e)⟩
  · -- a round
    rintro m pre x W hpre ⟨hi, hL, hK⟩
    have hlW : l < W.heap.size := (Array.getElem?_eq_some_iff.1 hL).1
    refine ⟨fn, _, assign, body, run_yield (P := P) (args := encs x) hL (hps x), ?_⟩
    have ha := hassign l pre x W (fun a₁ w₁ => ∃ w₂, (Instr.beginRound l).run P w₁ = .ok () w₂ ∧ body.wpIn (F.inRound l) n P (roundPost P l fun e W' =>
      ((e = .returned (.bool true) ∧ (I (pre ++ [x]) W' ∧ W'.heap[l]? = some (.loop (rec' .ready none)) ∧ ∀ d, D = some d → W'.heap[d]? = some (.deferred (some [])))) ∨
      (e = .returned (.bool false) ∧ ∃ c, Ix c (pre ++ [x]) W' ∧ W'.heap[l]? = some (.loop (rec' .done (some c))) ∧ ∀ d, D = some d → W'.heap[d]? = some (.deferred (some [])))) ∧ Step n₀ B (some l) W W') a₁ w₂) hi (by omega) ?_
    · have hfin := roundIn_of_wpIn (F := F) (n := n) hfn ha
      exact ⟨hfin.1, fun c cs _ => hfin.2 c cs (hroom _)⟩
    intro a' Wa hka hia hax
    have hLa := hka.same (Nat.le_trans hB hl) (fun e => by cases e) (fun _ _ e => by cases e) hL
    have hla : l < Wa.heap.size := (Array.getElem?_eq_some_iff.1 hLa).1
    refine ⟨_, run_beginRound hLa rfl, ?_⟩
    have hL2 : (Wa.putObj l (.loop { rec' .ready none with state := .busy })).heap[l]? = some (.loop { rec' .ready none with state := .busy }) := World.putObj_heap_same hla
    have hS2 : Step n₀ B (some l) W (Wa.putObj l (.loop { rec' .ready none with state := .busy })) := (hka.toX _).trans (Step.putObj _ (by omega) hla)
    refine wpIn_mono (hbody l pre x a' _ hl ⟨_, hL2⟩ (hI.putObj _ hia hl hLa rfl) ((hAx x a').putObj (s := ()) _ hax hl hLa rfl) hpre) ?_
    have fin : ∀ (jump : Option Code) (W3 : World), Step n₀ B none (Wa.putObj l (.loop { rec' .ready none with state := .busy })) W3 →
        (Instr.endRound l jump).run P W3 = .ok (.bool jump.isNone) (W3.putObj l (.loop (rec' (if jump.isNone then .ready else .done) jump))) ∧
        W3.heap[l]? = some (.loop { rec' .ready none with state := .busy }) ∧
        (W3.putObj l (.loop (rec' (if jump.isNone then .ready else .done) jump))).heap[l]? = some (.loop (rec' (if jump.isNone then .ready else .done) jump)) ∧
        (∀ d, D = some d → (W3.putObj l (.loop (rec' (if jump.isNone then .ready else .done) jump))).heap[d]? = some (.deferred (some []))) ∧
        Step n₀ B (some l) W (W3.putObj l (.loop (rec' (if jump.isNone then .ready else .done) jump))) := fun jump W3 hk3 => by
      have hL3 := hk3.same (Nat.le_trans hB hl) (fun e => by cases e) (fun _ _ e => by cases e) hL2
      have hl3 := (Array.getElem?_eq_some_iff.1 hL3).1
      exact ⟨run_endRound (P := P) jump hL3, hL3, World.putObj_heap_same hl3, fun d e => putD e (hk3.same (Nat.le_trans hB (hD d e).1) (fun e => by cases e) (fun _ _ e => by cases e) (putD e (hka.same (Nat.le_trans hB (hD d e).1) (fun e => by cases e) (fun _ _ e => by cases e) (hK d e)))), hS2.trans ((hk3.toX _).trans (Step.putObj _ (by omega) hl3))⟩
    rintro e a3 W3 hp
    cases e with
    | normal =>
      obtain ⟨hk3, hi3⟩ := hp
      obtain ⟨hr, hL3, hL4, hK4, hS4⟩ := fin none W3 hk3
      exact ⟨_, _, hr, .inl ⟨rfl, hI.putObj _ hi3 hl hL3 rfl, hL4, hK4⟩, hS4⟩
    | ret =>
      obtain ⟨hk3, hi3⟩ := hp
      obtain ⟨hr, hL3, hL4, hK4, hS4⟩ := fin (some .ret) W3 hk3
      exact ⟨_, _, hr, .inr ⟨rfl, .ret, (hIx _).putObj _ hi3 hl hL3 rfl, hL4, hK4⟩, hS4⟩
    | exit id =>
      obtain ⟨hk3, hi3⟩ := hp
      obtain ⟨hr, hL3, hL4, hK4, hS4⟩ := fin (some (.exit id)) W3 hk3
      exact ⟨_, _, hr, .inr ⟨rfl, .exit id, (hIx _).putObj _ hi3 hl hL3 rfl, hL4, hK4⟩, hS4⟩
    | goto t =>
      obtain ⟨hk3, hi3⟩ := hp
      obtain ⟨hr, hL3, hL4, hK4, hS4⟩ := fin (some (.goto t)) W3 hk3
      exact ⟨_, _, hr, .inr ⟨rfl, .goto t, (hIx _).putObj _ hi3 hl hL3 rfl, hL4, hK4⟩, hS4⟩
    | panic ch => exact hp.elim
    | outgrown => exact hp.elim
  · rintro e W2 ⟨⟨v, rfl⟩, (⟨hi, hL, hK⟩ | ⟨pre, hpre, c, hi, hL, hK⟩)⟩
    · exact ⟨none, _, run_endLoop (P := P) hL (fun h => by cases h), hdone _ (hI.putObj _ hi hl hL rfl) (fun d e => putD e (hK d e))⟩
    · exact ⟨some c, _, run_endLoop (P := P) hL (fun h => by cases h), hstop c pre _ hpre ((hIx c).putObj _ hi hl hL rfl) (fun d e => putD e (hK d e))⟩
theorem wpIn_hands {α : Type} {g : Operand} {ps : Array Tmp} {assign body : Code} {Q : Exit → Act → World → Prop} {a : Act} {w : World}
    (hd : F.depth = none) (hro : F.round = none) {gf : Nat} {lb : Array Value} (hg : a.eval g = .func (.func gf) #[] lb) (hFg : F.fn gf) (eg : ∀ args w, (callFunc gf args).run P w = .ok (.enter gf args) w)
    {encs : α → Array Value} {n₀ B : Nat} {xs : List α} {w0 : World} (hseq : Hands F P gf lb encs n₀ B xs w0) (hb0 : Below w0.heap.size w0 w) (hn₀ : n₀ ≤ w.heap.size) (hB : B ≤ w.heap.size) (hps : ∀ x, (encs x).size = ps.size)
    (I : List α → World → Prop) (Ix : Code → List α → World → Prop) (hI : OwnFrom w.heap.size I) (hIx : ∀ c, OwnFrom w.heap.size (Ix c)) (h0 : I [] w) (Ax : α → Act → World → Prop) (hAx : ∀ x a', OwnFrom w.heap.size (fun (_ : Unit) W => Ax x a' W))
    (hassign : ∀ (l : Nat) (pre : List α) (x : α) (W : World) (K : Act → World → Prop), I pre W → n₀ ≤ W.heap.size → (∀ a' W', Step n₀ B none W W' → I pre W' → Ax x a' W' → K a' W') →
      assign.wpIn (F.inRound l) n P (Exit.then K (fun _ _ _ => False)) { tmps := (ps.zip (encs x)).foldl (fun t (p, v) => t.setIfInBounds p v) a.tmps, defers := [] } W)
    (hbody : ∀ (l : Nat) (pre : List α) (x : α) (a' : Act) (W : World), w.heap.size ≤ l → (∃ r, W.heap[l]? = some (.loop r)) → I pre W → Ax x a' W → pre ++ [x] <+: xs → body.wpIn (F.inRound l) n P (bodyQ n₀ B I Ix (pre ++ [x]) W) a' W)
    (hdone : ∀ (D : Nat) (W : World), w.heap.size ≤ D → I xs W → W.heap[D]? = some (.deferred (some [])) → Q .normal { a with defers := { target := .collected D, args := #[] } :: a.defers } W)
    (hstop : ∀ (D : Nat) (c : Code) (pre : List α) (W : World), w.heap.size ≤ D → pre <+: xs → Ix c pre W → W.heap[D]? = some (.deferred (some [])) → c.wpIn F n P Q { a with defers := { target := .collected D, args := #[] } :: a.defers } W) :
    (Code.rangeFunc g ps assign body).wpIn F n P Q a w := by
  refine wpIn_hands_core hd hg hFg eg hseq hb0 hn₀ hB hps I Ix hI hIx Ax hAx hassign hbody (some w.heap.size) (w.heap.size + 1) [{ target := .collected w.heap.size, args := #[] }] (by omega) (fun d e => by cases e; exact ⟨Nat.le_refl _, by omega⟩) ?_
    (fun W h k => hdone w.heap.size W (Nat.le_refl _) h (k _ rfl)) (fun c pre W h1 h2 k => hstop w.heap.size c pre W (Nat.le_refl _) h1 h2 (k _ rfl))
  intro fn
  rw [hro]
  refine ⟨_, w.heap.size, run_enterLoop_outer fn a.tmps ps assign body, ?_, ?_, ((Below.refl _ w).alloc (Nat.le_refl _) _).alloc (by simp) _, hI.alloc _ (hI.alloc _ h0)⟩
  · have := World.alloc_heap_new (w.alloc (.deferred (some []))) (.loop { state := .ready, pending := none, fn, tmps := a.tmps, params := ps, assign, body, defers := w.heap.size }); rwa [World.size_alloc] at this
  · intro d e
    cases e
    exact (Below.heap_alloc _ _ _ (by simp)).trans (World.alloc_heap_new w _)
theorem wpIn_hands_round {α : Type} {g : Operand} {ps : Array Tmp} {assign body : Code} {Q : Exit → Act → World → Prop} {a : Act} {w : World}
    (hd : F.depth = none) {l₀ : Nat} {r₀ : Loop} (hro : F.round = some l₀) (hl₀ : w.heap[l₀]? = some (.loop r₀)) {gf : Nat} {lb : Array Value} (hg : a.eval g = .func (.func gf) #[] lb) (hFg : F.fn gf) (eg : ∀ args w, (callFunc gf args).run P w = .ok (.enter gf args) w)
    {encs : α → Array Value} {n₀ B : Nat} {xs : List α} {w0 : World} (hseq : Hands F P gf lb encs n₀ B xs w0) (hb0 : Below w0.heap.size w0 w) (hn₀ : n₀ ≤ w.heap.size) (hB : B ≤ w.heap.size) (hps : ∀ x, (encs x).size = ps.size)
    (I : List α → World → Prop) (Ix : Code → List α → World → Prop) (hI : OwnFrom w.heap.size I) (hIx : ∀ c, OwnFrom w.heap.size (Ix c)) (h0 : I [] w) (Ax : α → Act → World → Prop) (hAx : ∀ x a', OwnFrom w.heap.size (fun (_ : Unit) W => Ax x a' W))
    (hassign : ∀ (l : Nat) (pre : List α) (x : α) (W : World) (K : Act → World → Prop), I pre W → n₀ ≤ W.heap.size → (∀ a' W', Step n₀ B none W W' → I pre W' → Ax x a' W' → K a' W') →
      assign.wpIn (F.inRound l) n P (Exit.then K (fun _ _ _ => False)) { tmps := (ps.zip (encs x)).foldl (fun t (p, v) => t.setIfInBounds p v) a.tmps, defers := [] } W)
    (hbody : ∀ (l : Nat) (pre : List α) (x : α) (a' : Act) (W : World), w.heap.size ≤ l → (∃ r, W.heap[l]? = some (.loop r)) → I pre W → Ax x a' W → pre ++ [x] <+: xs → body.wpIn (F.inRound l) n P (bodyQ n₀ B I Ix (pre ++ [x]) W) a' W)
    (hdone : ∀ (W : World), I xs W → Q .normal a W)
    (hstop : ∀ (c : Code) (pre : List α) (W : World), pre <+: xs → Ix c pre W → c.wpIn F n P Q a W) :
    (Code.rangeFunc g ps assign body).wpIn F n P Q a w := by
  refine wpIn_hands_core hd hg hFg eg hseq hb0 hn₀ hB hps I Ix hI hIx Ax hAx hassign hbody none w.heap.size [] (Nat.le_refl _) (fun d e => by cases e) ?_
    (fun W h _ => hdone W h) (fun c pre W h1 h2 _ => hstop c pre W h1 h2)
  intro fn
  rw [hro]
  exact ⟨_, _, run_enterLoop_inner hl₀ fn a.tmps ps assign body, World.alloc_heap_new w _, (fun d e => by cases e), (Below.refl _ w).alloc (Nat.le_refl _) _, hI.alloc _ h0⟩
end Go.Proofs.YtalejbabhjlehaaGreatDoor
