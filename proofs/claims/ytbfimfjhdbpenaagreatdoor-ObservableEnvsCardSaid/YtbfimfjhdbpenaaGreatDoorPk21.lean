/- Joined: ObP, ObQ. -/
import Derived.Test.YtbfimfjhdbpenaaGreatDoorPk18
import Derived.Test.YtbfimfjhdbpenaaGreatDoorPk20
/- Layer 8: fixBefore, pickBefore, CheckEnv of the reference. -/
namespace Go.Proofs.YtbfimfjhdbpenaaGreatDoor
open Go Go.RowKit Go.BigFrame
theorem str_ord (a b : ByteArray) : (bl a.data.toList b.data.toList = true ∧ Op.bytesLess a.toList b.toList = true ∧ (a.toList == b.toList) = false) ∨ (a = b ∧ Op.bytesLess a.toList a.toList = false) ∨ (bl b.data.toList a.data.toList = true ∧ Op.bytesLess a.toList b.toList = false ∧ (a.toList == b.toList) = false ∧ Op.bytesLess b.toList a.toList = true) := by
  rcases str_cases a b with rfl | h
  · exact .inr (.inl ⟨rfl, by rw [Lib.toList_data]; exact bl_irrefl _⟩)
  · rw [Lib.toList_data, Lib.toList_data] at *
    cases h1 : Op.bytesLess a.data.toList b.data.toList
    · cases h2 : Op.bytesLess b.data.toList a.data.toList
      · exfalso
        have := bl_total h1 h2
        rw [this] at h
        simp at h
      · exact .inr (.inr ⟨h2, rfl, h, rfl⟩)
    · exact .inl ⟨h1, rfl, h⟩
theorem ltF_lt {n n' : ByteArray} (d d' : Int) (h : bl n.data.toList n'.data.toList = true) : ltK ([], n.data.toList, d) ([], n'.data.toList, d') = true := (ltK_iff _ _).2 (.inr ⟨rfl, .inl h⟩)
theorem ltF_gt {n n' : ByteArray} (d d' : Int) (h : bl n'.data.toList n.data.toList = true) : ltK ([], n.data.toList, d) ([], n'.data.toList, d') = false := ltK_asymm (ltF_lt d' d h)
theorem ltF_eq (p n : List UInt8) (d d' : Int) : ltK (p, n, d) (p, n, d') = decide (d < d') := by
  cases h : decide (d < d')
  · rw [decide_eq_false_iff_not] at h
    rw [Bool.eq_false_iff]
    intro g
    rcases (ltK_iff _ _).1 g with g | ⟨-, g | ⟨-, g⟩⟩
    · rw [bl_irrefl] at g; cases g
    · rw [bl_irrefl] at g; cases g
    · exact h g
  · rw [decide_eq_true_eq] at h
    exact (ltK_iff _ _).2 (.inr ⟨rfl, .inr ⟨rfl, h⟩⟩)
theorem ltC_lt {p p' : ByteArray} (n n' : List UInt8) (d d' : Int) (h : bl p.data.toList p'.data.toList = true) : ltK (p.data.toList, n, d) (p'.data.toList, n', d') = true := (ltK_iff _ _).2 (.inl h)
theorem ltC_gt {p p' : ByteArray} (n n' : List UInt8) (d d' : Int) (h : bl p'.data.toList p.data.toList = true) : ltK (p.data.toList, n, d) (p'.data.toList, n', d') = false := ltK_asymm (ltC_lt n' n d' d h)
theorem ltN_lt (p : List UInt8) {n n' : ByteArray} (d d' : Int) (h : bl n.data.toList n'.data.toList = true) : ltK (p, n.data.toList, d) (p, n'.data.toList, d') = true := (ltK_iff _ _).2 (.inr ⟨rfl, .inl h⟩)
theorem ltN_gt (p : List UInt8) {n n' : ByteArray} (d d' : Int) (h : bl n'.data.toList n.data.toList = true) : ltK (p, n.data.toList, d) (p, n'.data.toList, d') = false := ltK_asymm (ltN_lt p d' d h)
set_option maxRecDepth 100000 in
set_option maxHeartbeats 3200000 in
theorem fixBefore_any (n v n' v' : ByteArray) (d d' : Int) (w : World) : Calls Tryz.prog 66 #[.agg #[.string n, .int .i64 d, .string v], .agg #[.string n', .int .i64 d', .string v']] w (BoolRO (ltK ([], n.data.toList, d) ([], n'.data.toList, d')) w) := by
  have HB1 := belO w (.cells #[.string n, .int .i64 d, .string v] 44)
  obtain ⟨w0, hw0⟩ : ∃ w0, w.alloc (.cells #[.string n, .int .i64 d, .string v] 44) = w0 := ⟨_, rfl⟩
  have hs0 : w0.heap.size = w.heap.size + 1 := by rw [← hw0, World.size_alloc]
  have a0 : w0.cell? ⟨w.heap.size, 0, none⟩ = some (.string n) := by rw [← hw0, World.cell?_alloc_at _ _ _ _ rfl]; rfl
  have a1 : w0.cell? ⟨w.heap.size, 1, none⟩ = some (.int .i64 d) := by rw [← hw0, World.cell?_alloc_at _ _ _ _ rfl]; rfl
  have a2 : w0.cell? ⟨w.heap.size, 2, none⟩ = some (.string v) := by rw [← hw0, World.cell?_alloc_at _ _ _ _ rfl]; rfl
  rw [hw0] at HB1
  have HB2 := belO w0 (.cells #[.string n', .int .i64 d', .string v'] 44)
  obtain ⟨w1, hw1⟩ : ∃ w1, w0.alloc (.cells #[.string n', .int .i64 d', .string v'] 44) = w1 := ⟨_, rfl⟩
  have b0 : w1.cell? ⟨w.heap.size + 1, 0, none⟩ = some (.string n') := by rw [← hw1, World.cell?_alloc_at _ _ _ _ hs0.symm]; rfl
  have b1 : w1.cell? ⟨w.heap.size + 1, 1, none⟩ = some (.int .i64 d') := by rw [← hw1, World.cell?_alloc_at _ _ _ _ hs0.symm]; rfl
  have b2 : w1.cell? ⟨w.heap.size + 1, 2, none⟩ = some (.string v') := by rw [← hw1, World.cell?_alloc_at _ _ _ _ hs0.symm]; rfl
  rw [hw1] at HB2
  have c0 := cellO HB2 a0
  have c1 := cellO HB2 a1
  have c2 := cellO HB2 a2
  have HB := Lib.hid (btO HB1 HB2)
  clear HB1 HB2 a0 a1 a2
  rcases str_ord n n' with ⟨h0, h1, h2⟩ | ⟨rfl, h1⟩ | ⟨h0, h1, h2, h3⟩
  · rw [ltF_lt d d' h0]
    clear h0
    go_enter Tryz.func66, Tryz.ntmps66
    go_wp2_with (fail)
    go_ret
    exact ⟨rfl, HB.out⟩
  · rw [ltF_eq]
    go_enter Tryz.func66, Tryz.ntmps66
    go_wp2_with (fail)
    go_ret
    exact ⟨rfl, HB.out⟩
  · rw [ltF_gt d d' h0]
    clear h0 h3
    go_enter Tryz.func66, Tryz.ntmps66
    go_wp2_with (fail)
    go_ret
    exact ⟨rfl, HB.out⟩
set_option maxRecDepth 100000 in
set_option maxHeartbeats 3200000 in
theorem pickBefore_any (p n p' n' : ByteArray) (d d' : Int) (f f' : Bool) (w : World) : Calls Tryz.prog 67 #[.agg #[.string p, .string n, .int .i64 d, .bool f], .agg #[.string p', .string n', .int .i64 d', .bool f']] w (BoolRO (ltK (p.data.toList, n.data.toList, d) (p'.data.toList, n'.data.toList, d')) w) := by
  have HB1 := belO w (.cells #[.string p, .string n, .int .i64 d, .bool f] 47)
  obtain ⟨w0, hw0⟩ : ∃ w0, w.alloc (.cells #[.string p, .string n, .int .i64 d, .bool f] 47) = w0 := ⟨_, rfl⟩
  have hs0 : w0.heap.size = w.heap.size + 1 := by rw [← hw0, World.size_alloc]
  have a0 : w0.cell? ⟨w.heap.size, 0, none⟩ = some (.string p) := by rw [← hw0, World.cell?_alloc_at _ _ _ _ rfl]; rfl
  have a1 : w0.cell? ⟨w.heap.size, 1, none⟩ = some (.string n) := by rw [← hw0, World.cell?_alloc_at _ _ _ _ rfl]; rfl
  have a2 : w0.cell? ⟨w.heap.size, 2, none⟩ = some (.int .i64 d) := by rw [← hw0, World.cell?_alloc_at _ _ _ _ rfl]; rfl
  have a3 : w0.cell? ⟨w.heap.size, 3, none⟩ = some (.bool f) := by rw [← hw0, World.cell?_alloc_at _ _ _ _ rfl]; rfl
  rw [hw0] at HB1
  have HB2 := belO w0 (.cells #[.string p', .string n', .int .i64 d', .bool f'] 47)
  obtain ⟨w1, hw1⟩ : ∃ w1, w0.alloc (.cells #[.string p', .string n', .int .i64 d', .bool f'] 47) = w1 := ⟨_, rfl⟩
  have b0 : w1.cell? ⟨w.heap.size + 1, 0, none⟩ = some (.string p') := by rw [← hw1, World.cell?_alloc_at _ _ _ _ hs0.symm]; rfl
  have b1 : w1.cell? ⟨w.heap.size + 1, 1, none⟩ = some (.string n') := by rw [← hw1, World.cell?_alloc_at _ _ _ _ hs0.symm]; rfl
  have b2 : w1.cell? ⟨w.heap.size + 1, 2, none⟩ = some (.int .i64 d') := by rw [← hw1, World.cell?_alloc_at _ _ _ _ hs0.symm]; rfl
  have b3 : w1.cell? ⟨w.heap.size + 1, 3, none⟩ = some (.bool f') := by rw [← hw1, World.cell?_alloc_at _ _ _ _ hs0.symm]; rfl
  rw [hw1] at HB2
  have c0 := cellO HB2 a0
  have c1 := cellO HB2 a1
  have c2 := cellO HB2 a2
  have c3 := cellO HB2 a3
  have HB := Lib.hid (btO HB1 HB2)
  clear HB1 HB2 a0 a1 a2 a3
  rcases str_ord p p' with ⟨h0, h1, h2⟩ | ⟨rfl, h1⟩ | ⟨h0, h1, h2, h3⟩
  · rw [ltC_lt _ _ d d' h0]
    clear h0
    go_enter Tryz.func67, Tryz.ntmps67
    go_wp2_with (fail)
    go_ret
    exact ⟨rfl, HB.out⟩
  · rcases str_ord n n' with ⟨h0, h4, h5⟩ | ⟨rfl, h4⟩ | ⟨h0, h4, h5, h6⟩
    · rw [ltN_lt _ d d' h0]
      clear h0
      go_enter Tryz.func67, Tryz.ntmps67
      go_wp2_with (fail)
      go_ret
      exact ⟨rfl, HB.out⟩
    · rw [ltF_eq]
      go_enter Tryz.func67, Tryz.ntmps67
      go_wp2_with (fail)
      go_ret
      exact ⟨rfl, HB.out⟩
    · rw [ltN_gt _ d d' h0]
      clear h0 h6
      go_enter Tryz.func67, Tryz.ntmps67
      go_wp2_with (fail)
      go_ret
      exact ⟨rfl, HB.out⟩
  · rw [ltC_gt _ _ d d' h0]
    clear h0 h3
    go_enter Tryz.func67, Tryz.ntmps67
    go_wp2_with (fail)
    go_ret
    exact ⟨rfl, HB.out⟩
end Go.Proofs.YtbfimfjhdbpenaaGreatDoor
/- Layer 8: CheckEnv of the reference. -/
namespace Go.Proofs.YtbfimfjhdbpenaaGreatDoor
open Go Go.RowKit Go.BigFrame
def envE (fs : List Fx) (cs : List Cx) : Int := if 1000 < fs.length ∨ 1000 < cs.length then 4 else if ordB Fx.key Fx.ok fs && ordB Cx.key Cx.ok cs then 0 else 8
theorem calls_bel {P : Program} {f : FuncId} {args : Array Value} {w : World} {v : Value} (h : Calls P f args w fun e w' => e = .returned v ∧ w = w') : Calls P f args w fun e w' => e = .returned v ∧ Below w.heap.size w w' :=
  h.mono fun _ _ ⟨h1, h2⟩ => ⟨h1, h2 ▸ Below.refl _ _⟩
theorem Fx.ok_def (n : ByteArray) (d : Int) (v : ByteArray) : Fx.ok (n, d, v) = (nameO n.data.toList && dayO d && decide (chkR v.data.toList = 0)) := rfl
theorem Cx.ok_def (p n : ByteArray) (d : Int) (f : Bool) : Cx.ok (p, n, d, f) = (nameO p.data.toList && nameO n.data.toList && dayO d) := rfl
set_option maxRecDepth 100000 in
set_option maxHeartbeats 12800000 in
theorem rcheckEnv_any (E : Ev) (w : World) (hin : E.In w) (hsf : ∀ f ∈ E.fs, f.2.2.size ≤ 1048576) : Calls Tryz.prog 30 #[E.val] w (IntRO (envE E.fs E.cs) w) := by
  have mixed : Tryz.prog.follows Departure.mixedOrders = true := by kernel_rfl
  obtain ⟨fA, fs, fc, cA, cs, cc⟩ := E
  have HB1 := belO w (.cells #[.slice fA fs.length fc, .slice cA cs.length cc] 38)
  have hC : Ev.Box (w.alloc (.cells #[.slice fA fs.length fc, .slice cA cs.length cc] 38)) w.heap.size ⟨fA, fs, fc, cA, cs, cc⟩ := Ev.Box.new w ⟨fA, fs, fc, cA, cs, cc⟩ 38
  have hI1 := hin.below HB1
  obtain ⟨w1, hw1⟩ : ∃ w1, w.alloc (.cells #[.slice fA fs.length fc, .slice cA cs.length cc] 38) = w1 := ⟨_, rfl⟩
  rw [hw1] at HB1 hC hI1
  have HB := Lib.hid HB1
  have HI := Lib.hid hI1
  have HC := Lib.hid hC
  have hfl : fs.length ≤ 140737488351232 := hin.fl
  have hcl : cs.length ≤ 140737488351232 := hin.cl
  have HSF : Hid (∀ f ∈ fs, f.2.2.size ≤ 1048576) := hsf
  have HSC : Hid (∀ c ∈ cs, True) := fun _ _ => trivial
  have c0 : w1.cell? ⟨w.heap.size, 0, none⟩ = some (.slice fA fs.length fc) := hC.c0
  have c1 : w1.cell? ⟨w.heap.size, 1, none⟩ = some (.slice cA cs.length cc) := hC.c1
  show Calls Tryz.prog 30 #[.agg #[.slice fA fs.length fc, .slice cA cs.length cc]] w (IntRO (envE fs cs) w)
  clear hin hsf HB1 hI1 hC
  by_cases h1 : 1000 < (fs.length : Int)
  · rw [show envE fs cs = 4 from if_pos (.inl (by omega))]
    go_enter Tryz.func30, Tryz.ntmps30
    go_wp2_with (fail)
    go_ret
    exact ⟨rfl, HB.out⟩
  · by_cases h2 : 1000 < (cs.length : Int)
    · rw [show envE fs cs = 4 from if_pos (.inr (by omega))]
      go_enter Tryz.func30, Tryz.ntmps30
      go_wp2_with (fail)
      go_ret
      exact ⟨rfl, HB.out⟩
    · rw [show envE fs cs = if ordB Fx.key Fx.ok fs && ordB Cx.key Cx.ok cs then 0 else 8 from if_neg (by omega)]
      obtain ⟨R, hR⟩ : ∃ R : Int, (if ordB Fx.key Fx.ok fs && ordB Cx.key Cx.ok cs then 0 else 8) = R := ⟨_, rfl⟩
      have HXF : Hid (∀ k, k < fs.length → okJ Fx.key Fx.ok fs k = false → R = 8) := fun k hk g => by
        have hz : ordB Fx.key Fx.ok fs = false := by rw [Bool.eq_false_iff]; intro e; rw [(ordB_iff _ _ _).1 e k hk] at g; cases g
        rw [← hR, hz]; rfl
      have HXC : Hid (∀ k, k < cs.length → okJ Cx.key Cx.ok cs k = false → R = 8) := fun k hk g => by
        have hz : ordB Cx.key Cx.ok cs = false := by rw [Bool.eq_false_iff]; intro e; rw [(ordB_iff _ _ _).1 e k hk] at g; cases g
        rw [← hR, hz, Bool.and_false]; rfl
      have HX0 : Hid ((∀ i, i < fs.length → okJ Fx.key Fx.ok fs i = true) → (∀ i, i < cs.length → okJ Cx.key Cx.ok cs i = true) → R = 0) := fun g1 g2 => by
        rw [← hR, (ordB_iff Fx.key Fx.ok fs).2 g1, (ordB_iff Cx.key Cx.ok cs).2 g2]; rfl
      rw [hR]
      clear hR
      go_enter Tryz.func30, Tryz.ntmps30
      go_wp2_with (fail)
      clear hw1 c0 c1 h1 h2
      go_loopw [3] (fun i wr => ∃ k : Nat, k ≤ fs.length ∧ i = .int .i64 k ∧ Hid (∀ i, i < k → okJ Fx.key Fx.ok fs i = true) ∧ Hid (Below w1.heap.size w1 wr)) (fun i _ => fs.length - (intOf i).toNat)
      case atStart => exact ⟨0, by omega, rfl, fun i h => by omega, Below.refl _ _⟩
      case round =>
        obtain ⟨k, hk, rfl, HJ, HW⟩ := hrel
        have b0 : wr.cell? ⟨w.heap.size, 0, none⟩ = some (.slice fA fs.length fc) := (HC.out.below HW.out).c0
        have b1 : wr.cell? ⟨w.heap.size, 1, none⟩ = some (.slice cA cs.length cc) := (HC.out.below HW.out).c1
        by_cases hlt : k < fs.length
        ·
          have HIW := Lib.hid (HI.out.below HW.out)
          obtain ⟨bb, o, eA, -, d0, d1, d2⟩ := HIW.out.f.fx hlt
          simp only at eA d0 d1 d2
          have hbnd := HSF.out fs[k] (List.getElem_mem hlt)
          have HXk : Hid (okJ Fx.key Fx.ok fs k = false → R = 8) := fun g => HXF.out k hlt g
          have HIk : Hid (okJ Fx.key Fx.ok fs k = true → ∀ i, i < k + 1 → okJ Fx.key Fx.ok fs i = true) := fun g i hi => by
            rcases Nat.lt_or_ge i k with q | q
            · exact HJ.out i q
            · obtain rfl : i = k := by omega
              exact g
          have hk1 : (k : Int) < (fs.length : Int) := by omega
          clear HJ
          rcases Nat.eq_zero_or_pos k with hkz | hkp
          · subst hkz
            have hv := okJ_zero Fx.key Fx.ok fs hlt
            rw [hv] at HXk HIk
            generalize fs[0] = ff at *
            obtain ⟨n, d, v⟩ := ff
            rw [Fx.ok_def] at HXk HIk
            simp only at hbnd d0 d1 d2
            subst eA
            simp only [Nat.zero_mul, Nat.add_zero] at d0 d1 d2
            have HBt := Lib.hid (belO wr (.cells #[.string n, .int .i64 d, .string v] 44))
            have t0 : (wr.alloc (.cells #[.string n, .int .i64 d, .string v] 44)).cell? ⟨wr.heap.size, 0, none⟩ = some (.string n) := by rw [World.cell?_alloc_at _ _ _ _ rfl]; rfl
            have t1 : (wr.alloc (.cells #[.string n, .int .i64 d, .string v] 44)).cell? ⟨wr.heap.size, 1, none⟩ = some (.int .i64 d) := by rw [World.cell?_alloc_at _ _ _ _ rfl]; rfl
            have t2 : (wr.alloc (.cells #[.string n, .int .i64 d, .string v] 44)).cell? ⟨wr.heap.size, 2, none⟩ = some (.string v) := by rw [World.cell?_alloc_at _ _ _ _ rfl]; rfl
            have t8 := cellO HBt.out b0
            have t9 := cellO HBt.out b1
            have s0 := cellO HBt.out d0
            have s1 := cellO HBt.out d1
            have s2 := cellO HBt.out d2
            have HW5 := Lib.hid (btO HW.out HBt.out)
            have HCs := Lib.hid (And.intro t0 (And.intro t1 (And.intro t2 (And.intro t8 (And.intro t9 (And.intro s0 (And.intro s1 (s2))))))))
            clear t0 t1 t2 t8 t9 s0 s1 s2
            cases hN : nameO n.data.toList
            · obtain rfl := HXk.out (by rw [hN]; simp)
              clear HXk HIk
              go_wp2_with (fail)
              generalize wr.alloc (.cells #[.string n, .int .i64 d, .string v] 44) = w5 at *
              obtain ⟨t0, t1, t2, t8, t9, s0, s1, s2⟩ := HCs.out
              have zt0 := fun z : Bel w5 => z.cell t0
              have zt1 := fun z : Bel w5 => z.cell t1
              have zt2 := fun z : Bel w5 => z.cell t2
              have zt8 := fun z : Bel w5 => z.cell t8
              have zt9 := fun z : Bel w5 => z.cell t9
              have zs0 := fun z : Bel w5 => z.cell s0
              have zs1 := fun z : Bel w5 => z.cell s1
              have zs2 := fun z : Bel w5 => z.cell s2
              have HN : Hid (∀ W, Below w5.heap.size w5 W → Calls Tryz.prog 63 #[.string n] W fun e w' => e = .returned (.bool (nameO n.data.toList)) ∧ Below W.heap.size W w') := fun W _ => calls_bel (rname8_any n _ rfl W)
              have HD : Hid (∀ W, Below w5.heap.size w5 W → Calls Tryz.prog 64 #[.int .i64 d] W fun e w' => e = .returned (.bool (dayO d)) ∧ Below W.heap.size W w') := fun W _ => calls_bel (rday_any d W)
              have HK : Hid (∀ W, Below w5.heap.size w5 W → Calls Tryz.prog 65 #[.string v] W fun e w' => e = .returned (.int .i64 (chkR v.data.toList)) ∧ Below W.heap.size W w') := fun W _ => refRCheck_any v (by omega) W
              rw [hN] at HN
              clear t0 t1 t2 t8 t9 s0 s1 s2 d0 d1 d2 hN
              refine wp_region_bel (by kernel_rfl) (by kernel_rfl) ?_
              repeat (go_big_quiet_step (first
                | (go_at_call 63; with_reducible exact Bel.calls HN.out _)
                | (go_at_call 64; with_reducible exact Bel.calls HD.out _)
                | (go_at_call 65; with_reducible exact Bel.calls HK.out _)))
              refine wpQuiet_nil ?_
              rintro _ ⟨zz, rfl⟩
              have HZW := Lib.hid (btO HW5.out zz.2)
              generalize zz.1 = w6 at *
              go_wp2_with (fail)
              go_ret
              exact ⟨rfl, btO HB.out HZW.out⟩
            cases hD : dayO d
            · obtain rfl := HXk.out (by rw [hD]; simp)
              clear HXk HIk
              go_wp2_with (fail)
              generalize wr.alloc (.cells #[.string n, .int .i64 d, .string v] 44) = w5 at *
              obtain ⟨t0, t1, t2, t8, t9, s0, s1, s2⟩ := HCs.out
              have zt0 := fun z : Bel w5 => z.cell t0
              have zt1 := fun z : Bel w5 => z.cell t1
              have zt2 := fun z : Bel w5 => z.cell t2
              have zt8 := fun z : Bel w5 => z.cell t8
              have zt9 := fun z : Bel w5 => z.cell t9
              have zs0 := fun z : Bel w5 => z.cell s0
              have zs1 := fun z : Bel w5 => z.cell s1
              have zs2 := fun z : Bel w5 => z.cell s2
              have HN : Hid (∀ W, Below w5.heap.size w5 W → Calls Tryz.prog 63 #[.string n] W fun e w' => e = .returned (.bool (nameO n.data.toList)) ∧ Below W.heap.size W w') := fun W _ => calls_bel (rname8_any n _ rfl W)
              have HD : Hid (∀ W, Below w5.heap.size w5 W → Calls Tryz.prog 64 #[.int .i64 d] W fun e w' => e = .returned (.bool (dayO d)) ∧ Below W.heap.size W w') := fun W _ => calls_bel (rday_any d W)
              have HK : Hid (∀ W, Below w5.heap.size w5 W → Calls Tryz.prog 65 #[.string v] W fun e w' => e = .returned (.int .i64 (chkR v.data.toList)) ∧ Below W.heap.size W w') := fun W _ => refRCheck_any v (by omega) W
              rw [hD] at HD
              rw [hN] at HN
              clear t0 t1 t2 t8 t9 s0 s1 s2 d0 d1 d2 hD hN
              refine wp_region_bel (by kernel_rfl) (by kernel_rfl) ?_
              repeat (go_big_quiet_step (first
                | (go_at_call 63; with_reducible exact Bel.calls HN.out _)
                | (go_at_call 64; with_reducible exact Bel.calls HD.out _)
                | (go_at_call 65; with_reducible exact Bel.calls HK.out _)))
              refine wpQuiet_nil ?_
              rintro _ ⟨zz, rfl⟩
              have HZW := Lib.hid (btO HW5.out zz.2)
              generalize zz.1 = w6 at *
              go_wp2_with (fail)
              go_ret
              exact ⟨rfl, btO HB.out HZW.out⟩
            cases hK : decide (chkR v.data.toList = 0)
            · obtain rfl := HXk.out (by rw [hK]; simp)
              clear HXk HIk
              go_wp2_with (fail)
              generalize wr.alloc (.cells #[.string n, .int .i64 d, .string v] 44) = w5 at *
              obtain ⟨t0, t1, t2, t8, t9, s0, s1, s2⟩ := HCs.out
              have zt0 := fun z : Bel w5 => z.cell t0
              have zt1 := fun z : Bel w5 => z.cell t1
              have zt2 := fun z : Bel w5 => z.cell t2
              have zt8 := fun z : Bel w5 => z.cell t8
              have zt9 := fun z : Bel w5 => z.cell t9
              have zs0 := fun z : Bel w5 => z.cell s0
              have zs1 := fun z : Bel w5 => z.cell s1
              have zs2 := fun z : Bel w5 => z.cell s2
              have HN : Hid (∀ W, Below w5.heap.size w5 W → Calls Tryz.prog 63 #[.string n] W fun e w' => e = .returned (.bool (nameO n.data.toList)) ∧ Below W.heap.size W w') := fun W _ => calls_bel (rname8_any n _ rfl W)
              have HD : Hid (∀ W, Below w5.heap.size w5 W → Calls Tryz.prog 64 #[.int .i64 d] W fun e w' => e = .returned (.bool (dayO d)) ∧ Below W.heap.size W w') := fun W _ => calls_bel (rday_any d W)
              have HK : Hid (∀ W, Below w5.heap.size w5 W → Calls Tryz.prog 65 #[.string v] W fun e w' => e = .returned (.int .i64 (chkR v.data.toList)) ∧ Below W.heap.size W w') := fun W _ => refRCheck_any v (by omega) W
              have hKz : (chkR v.data.toList != 0) = true := by rw [bne_iff_ne]; exact of_decide_eq_false hK
              rw [hN] at HN
              rw [hD] at HD
              clear t0 t1 t2 t8 t9 s0 s1 s2 d0 d1 d2 hK hN hD
              refine wp_region_bel (by kernel_rfl) (by kernel_rfl) ?_
              repeat (go_big_quiet_step (first
                | (go_at_call 63; with_reducible exact Bel.calls HN.out _)
                | (go_at_call 64; with_reducible exact Bel.calls HD.out _)
                | (go_at_call 65; with_reducible exact Bel.calls HK.out _)))
              refine wpQuiet_nil ?_
              rintro _ ⟨zz, rfl⟩
              have HZW := Lib.hid (btO HW5.out zz.2)
              generalize zz.1 = w6 at *
              go_wp2_with (fail)
              go_ret
              exact ⟨rfl, btO HB.out HZW.out⟩
            have HI2 := Lib.hid (HIk.out (by rw [hN, hD, hK]; rfl))
            clear HXk HIk
            go_wp2_with (fail)
            generalize wr.alloc (.cells #[.string n, .int .i64 d, .string v] 44) = w5 at *
            obtain ⟨t0, t1, t2, t8, t9, s0, s1, s2⟩ := HCs.out
            have zt0 := fun z : Bel w5 => z.cell t0
            have zt1 := fun z : Bel w5 => z.cell t1
            have zt2 := fun z : Bel w5 => z.cell t2
            have zt8 := fun z : Bel w5 => z.cell t8
            have zt9 := fun z : Bel w5 => z.cell t9
            have zs0 := fun z : Bel w5 => z.cell s0
            have zs1 := fun z : Bel w5 => z.cell s1
            have zs2 := fun z : Bel w5 => z.cell s2
            have HN : Hid (∀ W, Below w5.heap.size w5 W → Calls Tryz.prog 63 #[.string n] W fun e w' => e = .returned (.bool (nameO n.data.toList)) ∧ Below W.heap.size W w') := fun W _ => calls_bel (rname8_any n _ rfl W)
            have HD : Hid (∀ W, Below w5.heap.size w5 W → Calls Tryz.prog 64 #[.int .i64 d] W fun e w' => e = .returned (.bool (dayO d)) ∧ Below W.heap.size W w') := fun W _ => calls_bel (rday_any d W)
            have HK : Hid (∀ W, Below w5.heap.size w5 W → Calls Tryz.prog 65 #[.string v] W fun e w' => e = .returned (.int .i64 (chkR v.data.toList)) ∧ Below W.heap.size W w') := fun W _ => refRCheck_any v (by omega) W
            rw [hN] at HN
            rw [hD] at HD
            rw [of_decide_eq_true hK] at HK
            clear t0 t1 t2 t8 t9 s0 s1 s2 d0 d1 d2 hN hD hK
            refine wp_region_bel (by kernel_rfl) (by kernel_rfl) ?_
            repeat (go_big_quiet_step (first
              | (go_at_call 63; with_reducible exact Bel.calls HN.out _)
              | (go_at_call 64; with_reducible exact Bel.calls HD.out _)
              | (go_at_call 65; with_reducible exact Bel.calls HK.out _)))
            refine wpQuiet_nil ?_
            rintro _ ⟨zz, rfl⟩
            have HZW := Lib.hid (btO HW5.out zz.2)
            generalize zz.1 = w6 at *
            go_wp2_with (fail)
            go_roundw
            case rel => exact ⟨0 + 1, by omega, by go_num, HI2, HZW⟩
            case measure => simp [intOf]; omega
          · obtain ⟨q, rfl⟩ : ∃ q, k = q + 1 := ⟨k - 1, by omega⟩
            have hlq : q < fs.length := by omega
            have hv := okJ_succ Fx.key Fx.ok fs q hlt
            rw [hv] at HXk HIk
            obtain ⟨bb', o', eA', -, g0, g1, g2⟩ := HIW.out.f.fx hlq
            simp only at eA' g0 g1 g2
            rw [eA] at eA'
            injection eA' with eA'
            injection eA' with e1 e2
            subst e1 e2
            generalize fs[q] = g at *
            obtain ⟨n', d', v'⟩ := g
            simp only at g0 g1 g2
            generalize fs[q + 1] = ff at *
            obtain ⟨n, d, v⟩ := ff
            rw [Fx.ok_def] at HXk HIk
            simp only at hbnd d0 d1 d2
            subst eA
            have HBt := Lib.hid (belO wr (.cells #[.string n, .int .i64 d, .string v] 44))
            have t0 : (wr.alloc (.cells #[.string n, .int .i64 d, .string v] 44)).cell? ⟨wr.heap.size, 0, none⟩ = some (.string n) := by rw [World.cell?_alloc_at _ _ _ _ rfl]; rfl
            have t1 : (wr.alloc (.cells #[.string n, .int .i64 d, .string v] 44)).cell? ⟨wr.heap.size, 1, none⟩ = some (.int .i64 d) := by rw [World.cell?_alloc_at _ _ _ _ rfl]; rfl
            have t2 : (wr.alloc (.cells #[.string n, .int .i64 d, .string v] 44)).cell? ⟨wr.heap.size, 2, none⟩ = some (.string v) := by rw [World.cell?_alloc_at _ _ _ _ rfl]; rfl
            have t8 := cellO HBt.out b0
            have t9 := cellO HBt.out b1
            have s0 := cellO HBt.out d0
            have s1 := cellO HBt.out d1
            have s2 := cellO HBt.out d2
            have r0 := cellO HBt.out g0
            have r1 := cellO HBt.out g1
            have r2 := cellO HBt.out g2
            have HW5 := Lib.hid (btO HW.out HBt.out)
            have HCs := Lib.hid (And.intro t0 (And.intro t1 (And.intro t2 (And.intro t8 (And.intro t9 (And.intro s0 (And.intro s1 (And.intro s2 (And.intro r0 (And.intro r1 (r2)))))))))))
            clear t0 t1 t2 t8 t9 s0 s1 s2 r0 r1 r2
            have hq0 : (0 : Int) ≤ (q : Int) := by omega
            have hq1 : (q : Int) < (fs.length : Int) := by omega
            have hq2 : IntKind.i64.wrap ((q : Int) + 1 - 1) = (q : Int) := by rw [IntKind.wrap_i64]; omega
            have hq3 : (q : Int) + 1 - 1 = (q : Int) := by omega
            have hq5 : decide ((0 : Int) < (q : Int) + 1) = true := by rw [decide_eq_true_eq]; omega
            have hq6 : ((q + 1 : Nat) : Int) = (q : Int) + 1 := rfl
            rw [hq6] at hk1 ⊢
            clear hq6
            cases hN : nameO n.data.toList
            · obtain rfl := HXk.out (by rw [hN]; simp)
              clear HXk HIk
              go_wp2_with (fail)
              generalize wr.alloc (.cells #[.string n, .int .i64 d, .string v] 44) = w5 at *
              obtain ⟨t0, t1, t2, t8, t9, s0, s1, s2, r0, r1, r2⟩ := HCs.out
              have zt0 := fun z : Bel w5 => z.cell t0
              have zt1 := fun z : Bel w5 => z.cell t1
              have zt2 := fun z : Bel w5 => z.cell t2
              have zt8 := fun z : Bel w5 => z.cell t8
              have zt9 := fun z : Bel w5 => z.cell t9
              have zs0 := fun z : Bel w5 => z.cell s0
              have zs1 := fun z : Bel w5 => z.cell s1
              have zs2 := fun z : Bel w5 => z.cell s2
              have zr0 := fun z : Bel w5 => z.cell r0
              have zr1 := fun z : Bel w5 => z.cell r1
              have zr2 := fun z : Bel w5 => z.cell r2
              have HN : Hid (∀ W, Below w5.heap.size w5 W → Calls Tryz.prog 63 #[.string n] W fun e w' => e = .returned (.bool (nameO n.data.toList)) ∧ Below W.heap.size W w') := fun W _ => calls_bel (rname8_any n _ rfl W)
              have HD : Hid (∀ W, Below w5.heap.size w5 W → Calls Tryz.prog 64 #[.int .i64 d] W fun e w' => e = .returned (.bool (dayO d)) ∧ Below W.heap.size W w') := fun W _ => calls_bel (rday_any d W)
              have HK : Hid (∀ W, Below w5.heap.size w5 W → Calls Tryz.prog 65 #[.string v] W fun e w' => e = .returned (.int .i64 (chkR v.data.toList)) ∧ Below W.heap.size W w') := fun W _ => refRCheck_any v (by omega) W
              have HBf : Hid (∀ W, Below w5.heap.size w5 W → Calls Tryz.prog 66 #[.agg #[.string n', .int .i64 d', .string v'], .agg #[.string n, .int .i64 d, .string v]] W fun e w' => e = .returned (.bool (ltK (Fx.key (n', d', v')) (Fx.key (n, d, v)))) ∧ Below W.heap.size W w') := fun W _ => fixBefore_any n' v' n v d' d W
              rw [hN] at HN
              clear t0 t1 t2 t8 t9 s0 s1 s2 r0 r1 r2 d0 d1 d2 hN
              refine wp_region_bel (by kernel_rfl) (by kernel_rfl) ?_
              repeat (go_big_quiet_step (first
                | (go_at_call 63; with_reducible exact Bel.calls HN.out _)
                | (go_at_call 64; with_reducible exact Bel.calls HD.out _)
                | (go_at_call 65; with_reducible exact Bel.calls HK.out _)
                | (go_at_call 66; with_reducible exact Bel.calls HBf.out _)))
              refine wpQuiet_nil ?_
              rintro _ ⟨zz, rfl⟩
              have HZW := Lib.hid (btO HW5.out zz.2)
              generalize zz.1 = w6 at *
              go_wp2_with (fail)
              go_ret
              exact ⟨rfl, btO HB.out HZW.out⟩
            cases hD : dayO d
            · obtain rfl := HXk.out (by rw [hD]; simp)
              clear HXk HIk
              go_wp2_with (fail)
              generalize wr.alloc (.cells #[.string n, .int .i64 d, .string v] 44) = w5 at *
              obtain ⟨t0, t1, t2, t8, t9, s0, s1, s2, r0, r1, r2⟩ := HCs.out
              have zt0 := fun z : Bel w5 => z.cell t0
              have zt1 := fun z : Bel w5 => z.cell t1
              have zt2 := fun z : Bel w5 => z.cell t2
              have zt8 := fun z : Bel w5 => z.cell t8
              have zt9 := fun z : Bel w5 => z.cell t9
              have zs0 := fun z : Bel w5 => z.cell s0
              have zs1 := fun z : Bel w5 => z.cell s1
              have zs2 := fun z : Bel w5 => z.cell s2
              have zr0 := fun z : Bel w5 => z.cell r0
              have zr1 := fun z : Bel w5 => z.cell r1
              have zr2 := fun z : Bel w5 => z.cell r2
              have HN : Hid (∀ W, Below w5.heap.size w5 W → Calls Tryz.prog 63 #[.string n] W fun e w' => e = .returned (.bool (nameO n.data.toList)) ∧ Below W.heap.size W w') := fun W _ => calls_bel (rname8_any n _ rfl W)
              have HD : Hid (∀ W, Below w5.heap.size w5 W → Calls Tryz.prog 64 #[.int .i64 d] W fun e w' => e = .returned (.bool (dayO d)) ∧ Below W.heap.size W w') := fun W _ => calls_bel (rday_any d W)
              have HK : Hid (∀ W, Below w5.heap.size w5 W → Calls Tryz.prog 65 #[.string v] W fun e w' => e = .returned (.int .i64 (chkR v.data.toList)) ∧ Below W.heap.size W w') := fun W _ => refRCheck_any v (by omega) W
              have HBf : Hid (∀ W, Below w5.heap.size w5 W → Calls Tryz.prog 66 #[.agg #[.string n', .int .i64 d', .string v'], .agg #[.string n, .int .i64 d, .string v]] W fun e w' => e = .returned (.bool (ltK (Fx.key (n', d', v')) (Fx.key (n, d, v)))) ∧ Below W.heap.size W w') := fun W _ => fixBefore_any n' v' n v d' d W
              rw [hD] at HD
              rw [hN] at HN
              clear t0 t1 t2 t8 t9 s0 s1 s2 r0 r1 r2 d0 d1 d2 hD hN
              refine wp_region_bel (by kernel_rfl) (by kernel_rfl) ?_
              repeat (go_big_quiet_step (first
                | (go_at_call 63; with_reducible exact Bel.calls HN.out _)
                | (go_at_call 64; with_reducible exact Bel.calls HD.out _)
                | (go_at_call 65; with_reducible exact Bel.calls HK.out _)
                | (go_at_call 66; with_reducible exact Bel.calls HBf.out _)))
              refine wpQuiet_nil ?_
              rintro _ ⟨zz, rfl⟩
              have HZW := Lib.hid (btO HW5.out zz.2)
              generalize zz.1 = w6 at *
              go_wp2_with (fail)
              go_ret
              exact ⟨rfl, btO HB.out HZW.out⟩
            cases hK : decide (chkR v.data.toList = 0)
            · obtain rfl := HXk.out (by rw [hK]; simp)
              clear HXk HIk
              go_wp2_with (fail)
              generalize wr.alloc (.cells #[.string n, .int .i64 d, .string v] 44) = w5 at *
              obtain ⟨t0, t1, t2, t8, t9, s0, s1, s2, r0, r1, r2⟩ := HCs.out
              have zt0 := fun z : Bel w5 => z.cell t0
              have zt1 := fun z : Bel w5 => z.cell t1
              have zt2 := fun z : Bel w5 => z.cell t2
              have zt8 := fun z : Bel w5 => z.cell t8
              have zt9 := fun z : Bel w5 => z.cell t9
              have zs0 := fun z : Bel w5 => z.cell s0
              have zs1 := fun z : Bel w5 => z.cell s1
              have zs2 := fun z : Bel w5 => z.cell s2
              have zr0 := fun z : Bel w5 => z.cell r0
              have zr1 := fun z : Bel w5 => z.cell r1
              have zr2 := fun z : Bel w5 => z.cell r2
              have HN : Hid (∀ W, Below w5.heap.size w5 W → Calls Tryz.prog 63 #[.string n] W fun e w' => e = .returned (.bool (nameO n.data.toList)) ∧ Below W.heap.size W w') := fun W _ => calls_bel (rname8_any n _ rfl W)
              have HD : Hid (∀ W, Below w5.heap.size w5 W → Calls Tryz.prog 64 #[.int .i64 d] W fun e w' => e = .returned (.bool (dayO d)) ∧ Below W.heap.size W w') := fun W _ => calls_bel (rday_any d W)
              have HK : Hid (∀ W, Below w5.heap.size w5 W → Calls Tryz.prog 65 #[.string v] W fun e w' => e = .returned (.int .i64 (chkR v.data.toList)) ∧ Below W.heap.size W w') := fun W _ => refRCheck_any v (by omega) W
              have HBf : Hid (∀ W, Below w5.heap.size w5 W → Calls Tryz.prog 66 #[.agg #[.string n', .int .i64 d', .string v'], .agg #[.string n, .int .i64 d, .string v]] W fun e w' => e = .returned (.bool (ltK (Fx.key (n', d', v')) (Fx.key (n, d, v)))) ∧ Below W.heap.size W w') := fun W _ => fixBefore_any n' v' n v d' d W
              have hKz : (chkR v.data.toList != 0) = true := by rw [bne_iff_ne]; exact of_decide_eq_false hK
              rw [hN] at HN
              rw [hD] at HD
              clear t0 t1 t2 t8 t9 s0 s1 s2 r0 r1 r2 d0 d1 d2 hK hN hD
              refine wp_region_bel (by kernel_rfl) (by kernel_rfl) ?_
              repeat (go_big_quiet_step (first
                | (go_at_call 63; with_reducible exact Bel.calls HN.out _)
                | (go_at_call 64; with_reducible exact Bel.calls HD.out _)
                | (go_at_call 65; with_reducible exact Bel.calls HK.out _)
                | (go_at_call 66; with_reducible exact Bel.calls HBf.out _)))
              refine wpQuiet_nil ?_
              rintro _ ⟨zz, rfl⟩
              have HZW := Lib.hid (btO HW5.out zz.2)
              generalize zz.1 = w6 at *
              go_wp2_with (fail)
              go_ret
              exact ⟨rfl, btO HB.out HZW.out⟩
            cases hL : ltK (Fx.key (n', d', v')) (Fx.key (n, d, v))
            · obtain rfl := HXk.out (by rw [hL]; simp)
              clear HXk HIk
              go_wp2_with (fail)
              generalize wr.alloc (.cells #[.string n, .int .i64 d, .string v] 44) = w5 at *
              obtain ⟨t0, t1, t2, t8, t9, s0, s1, s2, r0, r1, r2⟩ := HCs.out
              have zt0 := fun z : Bel w5 => z.cell t0
              have zt1 := fun z : Bel w5 => z.cell t1
              have zt2 := fun z : Bel w5 => z.cell t2
              have zt8 := fun z : Bel w5 => z.cell t8
              have zt9 := fun z : Bel w5 => z.cell t9
              have zs0 := fun z : Bel w5 => z.cell s0
              have zs1 := fun z : Bel w5 => z.cell s1
              have zs2 := fun z : Bel w5 => z.cell s2
              have zr0 := fun z : Bel w5 => z.cell r0
              have zr1 := fun z : Bel w5 => z.cell r1
              have zr2 := fun z : Bel w5 => z.cell r2
              have HN : Hid (∀ W, Below w5.heap.size w5 W → Calls Tryz.prog 63 #[.string n] W fun e w' => e = .returned (.bool (nameO n.data.toList)) ∧ Below W.heap.size W w') := fun W _ => calls_bel (rname8_any n _ rfl W)
              have HD : Hid (∀ W, Below w5.heap.size w5 W → Calls Tryz.prog 64 #[.int .i64 d] W fun e w' => e = .returned (.bool (dayO d)) ∧ Below W.heap.size W w') := fun W _ => calls_bel (rday_any d W)
              have HK : Hid (∀ W, Below w5.heap.size w5 W → Calls Tryz.prog 65 #[.string v] W fun e w' => e = .returned (.int .i64 (chkR v.data.toList)) ∧ Below W.heap.size W w') := fun W _ => refRCheck_any v (by omega) W
              have HBf : Hid (∀ W, Below w5.heap.size w5 W → Calls Tryz.prog 66 #[.agg #[.string n', .int .i64 d', .string v'], .agg #[.string n, .int .i64 d, .string v]] W fun e w' => e = .returned (.bool (ltK (Fx.key (n', d', v')) (Fx.key (n, d, v)))) ∧ Below W.heap.size W w') := fun W _ => fixBefore_any n' v' n v d' d W
              rw [hN] at HN
              rw [hD] at HD
              rw [of_decide_eq_true hK] at HK
              rw [hL] at HBf
              clear t0 t1 t2 t8 t9 s0 s1 s2 r0 r1 r2 d0 d1 d2 hN hD hK
              refine wp_region_bel (by kernel_rfl) (by kernel_rfl) ?_
              repeat (go_big_quiet_step (first
                | (go_at_call 63; with_reducible exact Bel.calls HN.out _)
                | (go_at_call 64; with_reducible exact Bel.calls HD.out _)
                | (go_at_call 65; with_reducible exact Bel.calls HK.out _)
                | (go_at_call 66; with_reducible exact Bel.calls HBf.out _)))
              refine wpQuiet_nil ?_
              rintro _ ⟨zz, rfl⟩
              have HZW := Lib.hid (btO HW5.out zz.2)
              generalize zz.1 = w6 at *
              go_wp2_with (fail)
              go_ret
              exact ⟨rfl, btO HB.out HZW.out⟩
            · have HI2 := Lib.hid (HIk.out (by rw [hN, hD, hK, hL]; rfl))
              clear HXk HIk
              go_wp2_with (fail)
              generalize wr.alloc (.cells #[.string n, .int .i64 d, .string v] 44) = w5 at *
              obtain ⟨t0, t1, t2, t8, t9, s0, s1, s2, r0, r1, r2⟩ := HCs.out
              have zt0 := fun z : Bel w5 => z.cell t0
              have zt1 := fun z : Bel w5 => z.cell t1
              have zt2 := fun z : Bel w5 => z.cell t2
              have zt8 := fun z : Bel w5 => z.cell t8
              have zt9 := fun z : Bel w5 => z.cell t9
              have zs0 := fun z : Bel w5 => z.cell s0
              have zs1 := fun z : Bel w5 => z.cell s1
              have zs2 := fun z : Bel w5 => z.cell s2
              have zr0 := fun z : Bel w5 => z.cell r0
              have zr1 := fun z : Bel w5 => z.cell r1
              have zr2 := fun z : Bel w5 => z.cell r2
              have HN : Hid (∀ W, Below w5.heap.size w5 W → Calls Tryz.prog 63 #[.string n] W fun e w' => e = .returned (.bool (nameO n.data.toList)) ∧ Below W.heap.size W w') := fun W _ => calls_bel (rname8_any n _ rfl W)
              have HD : Hid (∀ W, Below w5.heap.size w5 W → Calls Tryz.prog 64 #[.int .i64 d] W fun e w' => e = .returned (.bool (dayO d)) ∧ Below W.heap.size W w') := fun W _ => calls_bel (rday_any d W)
              have HK : Hid (∀ W, Below w5.heap.size w5 W → Calls Tryz.prog 65 #[.string v] W fun e w' => e = .returned (.int .i64 (chkR v.data.toList)) ∧ Below W.heap.size W w') := fun W _ => refRCheck_any v (by omega) W
              have HBf : Hid (∀ W, Below w5.heap.size w5 W → Calls Tryz.prog 66 #[.agg #[.string n', .int .i64 d', .string v'], .agg #[.string n, .int .i64 d, .string v]] W fun e w' => e = .returned (.bool (ltK (Fx.key (n', d', v')) (Fx.key (n, d, v)))) ∧ Below W.heap.size W w') := fun W _ => fixBefore_any n' v' n v d' d W
              rw [hN] at HN
              rw [hD] at HD
              rw [of_decide_eq_true hK] at HK
              rw [hL] at HBf
              clear t0 t1 t2 t8 t9 s0 s1 s2 r0 r1 r2 d0 d1 d2 hN hD hK
              refine wp_region_bel (by kernel_rfl) (by kernel_rfl) ?_
              repeat (go_big_quiet_step (first
                | (go_at_call 63; with_reducible exact Bel.calls HN.out _)
                | (go_at_call 64; with_reducible exact Bel.calls HD.out _)
                | (go_at_call 65; with_reducible exact Bel.calls HK.out _)
                | (go_at_call 66; with_reducible exact Bel.calls HBf.out _)))
              refine wpQuiet_nil ?_
              rintro _ ⟨zz, rfl⟩
              have HZW := Lib.hid (btO HW5.out zz.2)
              generalize zz.1 = w6 at *
              go_wp2_with (fail)
              go_roundw
              case rel => exact ⟨q + 1 + 1, by omega, by go_num, HI2, HZW⟩
              case measure => simp [intOf]; omega
        · obtain rfl : k = fs.length := by omega
          have HJF := HJ
          clear HJ hlt
          go_wp2_with (fail)
          go_loopw [5] (fun i wr => ∃ k : Nat, k ≤ cs.length ∧ i = .int .i64 k ∧ Hid (∀ i, i < k → okJ Cx.key Cx.ok cs i = true) ∧ Hid (Below w1.heap.size w1 wr)) (fun i _ => cs.length - (intOf i).toNat)
          case atStart => exact ⟨0, by omega, rfl, fun i h => by omega, HW.out⟩
          case round =>
            clear b0 b1 HW
            obtain ⟨k, hk, rfl, HJ, HW⟩ := hrel
            have b0 : wr.cell? ⟨w.heap.size, 0, none⟩ = some (.slice fA fs.length fc) := (HC.out.below HW.out).c0
            have b1 : wr.cell? ⟨w.heap.size, 1, none⟩ = some (.slice cA cs.length cc) := (HC.out.below HW.out).c1
            by_cases hlt : k < cs.length
            ·
              have HIW := Lib.hid (HI.out.below HW.out)
              obtain ⟨bb, o, eA, -, d0, d1, d2, d3⟩ := HIW.out.c.cx hlt
              simp only at eA d0 d1 d2 d3
              have hbnd := HSC.out cs[k] (List.getElem_mem hlt)
              have HXk : Hid (okJ Cx.key Cx.ok cs k = false → R = 8) := fun g => HXC.out k hlt g
              have HIk : Hid (okJ Cx.key Cx.ok cs k = true → ∀ i, i < k + 1 → okJ Cx.key Cx.ok cs i = true) := fun g i hi => by
                rcases Nat.lt_or_ge i k with q | q
                · exact HJ.out i q
                · obtain rfl : i = k := by omega
                  exact g
              have hk1 : (k : Int) < (cs.length : Int) := by omega
              clear HJ
              rcases Nat.eq_zero_or_pos k with hkz | hkp
              · subst hkz
                have hv := okJ_zero Cx.key Cx.ok cs hlt
                rw [hv] at HXk HIk
                generalize cs[0] = ff at *
                obtain ⟨p, n, d, f⟩ := ff
                rw [Cx.ok_def] at HXk HIk
                simp only at hbnd d0 d1 d2 d3
                subst eA
                simp only [Nat.zero_mul, Nat.add_zero] at d0 d1 d2 d3
                have HBt := Lib.hid (belO wr (.cells #[.string p, .string n, .int .i64 d, .bool f] 47))
                have t0 : (wr.alloc (.cells #[.string p, .string n, .int .i64 d, .bool f] 47)).cell? ⟨wr.heap.size, 0, none⟩ = some (.string p) := by rw [World.cell?_alloc_at _ _ _ _ rfl]; rfl
                have t1 : (wr.alloc (.cells #[.string p, .string n, .int .i64 d, .bool f] 47)).cell? ⟨wr.heap.size, 1, none⟩ = some (.string n) := by rw [World.cell?_alloc_at _ _ _ _ rfl]; rfl
                have t2 : (wr.alloc (.cells #[.string p, .string n, .int .i64 d, .bool f] 47)).cell? ⟨wr.heap.size, 2, none⟩ = some (.int .i64 d) := by rw [World.cell?_alloc_at _ _ _ _ rfl]; rfl
                have t3 : (wr.alloc (.cells #[.string p, .string n, .int .i64 d, .bool f] 47)).cell? ⟨wr.heap.size, 3, none⟩ = some (.bool f) := by rw [World.cell?_alloc_at _ _ _ _ rfl]; rfl
                have t8 := cellO HBt.out b0
                have t9 := cellO HBt.out b1
                have s0 := cellO HBt.out d0
                have s1 := cellO HBt.out d1
                have s2 := cellO HBt.out d2
                have s3 := cellO HBt.out d3
                have HW5 := Lib.hid (btO HW.out HBt.out)
                have HCs := Lib.hid (And.intro t0 (And.intro t1 (And.intro t2 (And.intro t3 (And.intro t8 (And.intro t9 (And.intro s0 (And.intro s1 (And.intro s2 (s3))))))))))
                clear t0 t1 t2 t3 t8 t9 s0 s1 s2 s3
                cases hP : nameO p.data.toList
                · obtain rfl := HXk.out (by rw [hP]; simp)
                  clear HXk HIk
                  go_wp2_with (fail)
                  generalize wr.alloc (.cells #[.string p, .string n, .int .i64 d, .bool f] 47) = w5 at *
                  obtain ⟨t0, t1, t2, t3, t8, t9, s0, s1, s2, s3⟩ := HCs.out
                  have zt0 := fun z : Bel w5 => z.cell t0
                  have zt1 := fun z : Bel w5 => z.cell t1
                  have zt2 := fun z : Bel w5 => z.cell t2
                  have zt3 := fun z : Bel w5 => z.cell t3
                  have zt8 := fun z : Bel w5 => z.cell t8
                  have zt9 := fun z : Bel w5 => z.cell t9
                  have zs0 := fun z : Bel w5 => z.cell s0
                  have zs1 := fun z : Bel w5 => z.cell s1
                  have zs2 := fun z : Bel w5 => z.cell s2
                  have zs3 := fun z : Bel w5 => z.cell s3
                  have HN : Hid (∀ W, Below w5.heap.size w5 W → Calls Tryz.prog 63 #[.string n] W fun e w' => e = .returned (.bool (nameO n.data.toList)) ∧ Below W.heap.size W w') := fun W _ => calls_bel (rname8_any n _ rfl W)
                  have HP : Hid (∀ W, Below w5.heap.size w5 W → Calls Tryz.prog 63 #[.string p] W fun e w' => e = .returned (.bool (nameO p.data.toList)) ∧ Below W.heap.size W w') := fun W _ => calls_bel (rname8_any p _ rfl W)
                  have HD : Hid (∀ W, Below w5.heap.size w5 W → Calls Tryz.prog 64 #[.int .i64 d] W fun e w' => e = .returned (.bool (dayO d)) ∧ Below W.heap.size W w') := fun W _ => calls_bel (rday_any d W)
                  rw [hP] at HP
                  clear t0 t1 t2 t3 t8 t9 s0 s1 s2 s3 d0 d1 d2 d3 hP
                  refine wp_region_bel (by kernel_rfl) (by kernel_rfl) ?_
                  repeat (go_big_quiet_step (first
                    | (go_at_call 63; with_reducible exact Bel.calls HP.out _)
                    | (go_at_call 63; with_reducible exact Bel.calls HN.out _)
                    | (go_at_call 64; with_reducible exact Bel.calls HD.out _)))
                  refine wpQuiet_nil ?_
                  rintro _ ⟨zz, rfl⟩
                  have HZW := Lib.hid (btO HW5.out zz.2)
                  generalize zz.1 = w6 at *
                  go_wp2_with (fail)
                  go_ret
                  exact ⟨rfl, btO HB.out HZW.out⟩
                cases hN : nameO n.data.toList
                · obtain rfl := HXk.out (by rw [hN]; simp)
                  clear HXk HIk
                  go_wp2_with (fail)
                  generalize wr.alloc (.cells #[.string p, .string n, .int .i64 d, .bool f] 47) = w5 at *
                  obtain ⟨t0, t1, t2, t3, t8, t9, s0, s1, s2, s3⟩ := HCs.out
                  have zt0 := fun z : Bel w5 => z.cell t0
                  have zt1 := fun z : Bel w5 => z.cell t1
                  have zt2 := fun z : Bel w5 => z.cell t2
                  have zt3 := fun z : Bel w5 => z.cell t3
                  have zt8 := fun z : Bel w5 => z.cell t8
                  have zt9 := fun z : Bel w5 => z.cell t9
                  have zs0 := fun z : Bel w5 => z.cell s0
                  have zs1 := fun z : Bel w5 => z.cell s1
                  have zs2 := fun z : Bel w5 => z.cell s2
                  have zs3 := fun z : Bel w5 => z.cell s3
                  have HN : Hid (∀ W, Below w5.heap.size w5 W → Calls Tryz.prog 63 #[.string n] W fun e w' => e = .returned (.bool (nameO n.data.toList)) ∧ Below W.heap.size W w') := fun W _ => calls_bel (rname8_any n _ rfl W)
                  have HP : Hid (∀ W, Below w5.heap.size w5 W → Calls Tryz.prog 63 #[.string p] W fun e w' => e = .returned (.bool (nameO p.data.toList)) ∧ Below W.heap.size W w') := fun W _ => calls_bel (rname8_any p _ rfl W)
                  have HD : Hid (∀ W, Below w5.heap.size w5 W → Calls Tryz.prog 64 #[.int .i64 d] W fun e w' => e = .returned (.bool (dayO d)) ∧ Below W.heap.size W w') := fun W _ => calls_bel (rday_any d W)
                  rw [hN] at HN
                  rw [hP] at HP
                  clear t0 t1 t2 t3 t8 t9 s0 s1 s2 s3 d0 d1 d2 d3 hN hP
                  refine wp_region_bel (by kernel_rfl) (by kernel_rfl) ?_
                  repeat (go_big_quiet_step (first
                    | (go_at_call 63; with_reducible exact Bel.calls HP.out _)
                    | (go_at_call 63; with_reducible exact Bel.calls HN.out _)
                    | (go_at_call 64; with_reducible exact Bel.calls HD.out _)))
                  refine wpQuiet_nil ?_
                  rintro _ ⟨zz, rfl⟩
                  have HZW := Lib.hid (btO HW5.out zz.2)
                  generalize zz.1 = w6 at *
                  go_wp2_with (fail)
                  go_ret
                  exact ⟨rfl, btO HB.out HZW.out⟩
                cases hD : dayO d
                · obtain rfl := HXk.out (by rw [hD]; simp)
                  clear HXk HIk
                  go_wp2_with (fail)
                  generalize wr.alloc (.cells #[.string p, .string n, .int .i64 d, .bool f] 47) = w5 at *
                  obtain ⟨t0, t1, t2, t3, t8, t9, s0, s1, s2, s3⟩ := HCs.out
                  have zt0 := fun z : Bel w5 => z.cell t0
                  have zt1 := fun z : Bel w5 => z.cell t1
                  have zt2 := fun z : Bel w5 => z.cell t2
                  have zt3 := fun z : Bel w5 => z.cell t3
                  have zt8 := fun z : Bel w5 => z.cell t8
                  have zt9 := fun z : Bel w5 => z.cell t9
                  have zs0 := fun z : Bel w5 => z.cell s0
                  have zs1 := fun z : Bel w5 => z.cell s1
                  have zs2 := fun z : Bel w5 => z.cell s2
                  have zs3 := fun z : Bel w5 => z.cell s3
                  have HN : Hid (∀ W, Below w5.heap.size w5 W → Calls Tryz.prog 63 #[.string n] W fun e w' => e = .returned (.bool (nameO n.data.toList)) ∧ Below W.heap.size W w') := fun W _ => calls_bel (rname8_any n _ rfl W)
                  have HP : Hid (∀ W, Below w5.heap.size w5 W → Calls Tryz.prog 63 #[.string p] W fun e w' => e = .returned (.bool (nameO p.data.toList)) ∧ Below W.heap.size W w') := fun W _ => calls_bel (rname8_any p _ rfl W)
                  have HD : Hid (∀ W, Below w5.heap.size w5 W → Calls Tryz.prog 64 #[.int .i64 d] W fun e w' => e = .returned (.bool (dayO d)) ∧ Below W.heap.size W w') := fun W _ => calls_bel (rday_any d W)
                  rw [hD] at HD
                  rw [hP] at HP
                  rw [hN] at HN
                  clear t0 t1 t2 t3 t8 t9 s0 s1 s2 s3 d0 d1 d2 d3 hD hP hN
                  refine wp_region_bel (by kernel_rfl) (by kernel_rfl) ?_
                  repeat (go_big_quiet_step (first
                    | (go_at_call 63; with_reducible exact Bel.calls HP.out _)
                    | (go_at_call 63; with_reducible exact Bel.calls HN.out _)
                    | (go_at_call 64; with_reducible exact Bel.calls HD.out _)))
                  refine wpQuiet_nil ?_
                  rintro _ ⟨zz, rfl⟩
                  have HZW := Lib.hid (btO HW5.out zz.2)
                  generalize zz.1 = w6 at *
                  go_wp2_with (fail)
                  go_ret
                  exact ⟨rfl, btO HB.out HZW.out⟩
                have HI2 := Lib.hid (HIk.out (by rw [hP, hN, hD]; rfl))
                clear HXk HIk
                go_wp2_with (fail)
                generalize wr.alloc (.cells #[.string p, .string n, .int .i64 d, .bool f] 47) = w5 at *
                obtain ⟨t0, t1, t2, t3, t8, t9, s0, s1, s2, s3⟩ := HCs.out
                have zt0 := fun z : Bel w5 => z.cell t0
                have zt1 := fun z : Bel w5 => z.cell t1
                have zt2 := fun z : Bel w5 => z.cell t2
                have zt3 := fun z : Bel w5 => z.cell t3
                have zt8 := fun z : Bel w5 => z.cell t8
                have zt9 := fun z : Bel w5 => z.cell t9
                have zs0 := fun z : Bel w5 => z.cell s0
                have zs1 := fun z : Bel w5 => z.cell s1
                have zs2 := fun z : Bel w5 => z.cell s2
                have zs3 := fun z : Bel w5 => z.cell s3
                have HN : Hid (∀ W, Below w5.heap.size w5 W → Calls Tryz.prog 63 #[.string n] W fun e w' => e = .returned (.bool (nameO n.data.toList)) ∧ Below W.heap.size W w') := fun W _ => calls_bel (rname8_any n _ rfl W)
                have HP : Hid (∀ W, Below w5.heap.size w5 W → Calls Tryz.prog 63 #[.string p] W fun e w' => e = .returned (.bool (nameO p.data.toList)) ∧ Below W.heap.size W w') := fun W _ => calls_bel (rname8_any p _ rfl W)
                have HD : Hid (∀ W, Below w5.heap.size w5 W → Calls Tryz.prog 64 #[.int .i64 d] W fun e w' => e = .returned (.bool (dayO d)) ∧ Below W.heap.size W w') := fun W _ => calls_bel (rday_any d W)
                rw [hP] at HP
                rw [hN] at HN
                rw [hD] at HD
                clear t0 t1 t2 t3 t8 t9 s0 s1 s2 s3 d0 d1 d2 d3 hP hN hD
                refine wp_region_bel (by kernel_rfl) (by kernel_rfl) ?_
                repeat (go_big_quiet_step (first
                  | (go_at_call 63; with_reducible exact Bel.calls HP.out _)
                  | (go_at_call 63; with_reducible exact Bel.calls HN.out _)
                  | (go_at_call 64; with_reducible exact Bel.calls HD.out _)))
                refine wpQuiet_nil ?_
                rintro _ ⟨zz, rfl⟩
                have HZW := Lib.hid (btO HW5.out zz.2)
                generalize zz.1 = w6 at *
                go_wp2_with (fail)
                go_roundw
                case rel => exact ⟨0 + 1, by omega, by go_num, HI2, HZW⟩
                case measure => simp [intOf]; omega
              · obtain ⟨q, rfl⟩ : ∃ q, k = q + 1 := ⟨k - 1, by omega⟩
                have hlq : q < cs.length := by omega
                have hv := okJ_succ Cx.key Cx.ok cs q hlt
                rw [hv] at HXk HIk
                obtain ⟨bb', o', eA', -, g0, g1, g2, g3⟩ := HIW.out.c.cx hlq
                simp only at eA' g0 g1 g2 g3
                rw [eA] at eA'
                injection eA' with eA'
                injection eA' with e1 e2
                subst e1 e2
                generalize cs[q] = g at *
                obtain ⟨p', n', d', f'⟩ := g
                simp only at g0 g1 g2 g3
                generalize cs[q + 1] = ff at *
                obtain ⟨p, n, d, f⟩ := ff
                rw [Cx.ok_def] at HXk HIk
                simp only at hbnd d0 d1 d2 d3
                subst eA
                have HBt := Lib.hid (belO wr (.cells #[.string p, .string n, .int .i64 d, .bool f] 47))
                have t0 : (wr.alloc (.cells #[.string p, .string n, .int .i64 d, .bool f] 47)).cell? ⟨wr.heap.size, 0, none⟩ = some (.string p) := by rw [World.cell?_alloc_at _ _ _ _ rfl]; rfl
                have t1 : (wr.alloc (.cells #[.string p, .string n, .int .i64 d, .bool f] 47)).cell? ⟨wr.heap.size, 1, none⟩ = some (.string n) := by rw [World.cell?_alloc_at _ _ _ _ rfl]; rfl
                have t2 : (wr.alloc (.cells #[.string p, .string n, .int .i64 d, .bool f] 47)).cell? ⟨wr.heap.size, 2, none⟩ = some (.int .i64 d) := by rw [World.cell?_alloc_at _ _ _ _ rfl]; rfl
                have t3 : (wr.alloc (.cells #[.string p, .string n, .int .i64 d, .bool f] 47)).cell? ⟨wr.heap.size, 3, none⟩ = some (.bool f) := by rw [World.cell?_alloc_at _ _ _ _ rfl]; rfl
                have t8 := cellO HBt.out b0
                have t9 := cellO HBt.out b1
                have s0 := cellO HBt.out d0
                have s1 := cellO HBt.out d1
                have s2 := cellO HBt.out d2
                have s3 := cellO HBt.out d3
                have r0 := cellO HBt.out g0
                have r1 := cellO HBt.out g1
                have r2 := cellO HBt.out g2
                have r3 := cellO HBt.out g3
                have HW5 := Lib.hid (btO HW.out HBt.out)
                have HCs := Lib.hid (And.intro t0 (And.intro t1 (And.intro t2 (And.intro t3 (And.intro t8 (And.intro t9 (And.intro s0 (And.intro s1 (And.intro s2 (And.intro s3 (And.intro r0 (And.intro r1 (And.intro r2 (r3))))))))))))))
                clear t0 t1 t2 t3 t8 t9 s0 s1 s2 s3 r0 r1 r2 r3
                have hq0 : (0 : Int) ≤ (q : Int) := by omega
                have hq1 : (q : Int) < (cs.length : Int) := by omega
                have hq2 : IntKind.i64.wrap ((q : Int) + 1 - 1) = (q : Int) := by rw [IntKind.wrap_i64]; omega
                have hq3 : (q : Int) + 1 - 1 = (q : Int) := by omega
                have hq5 : decide ((0 : Int) < (q : Int) + 1) = true := by rw [decide_eq_true_eq]; omega
                have hq6 : ((q + 1 : Nat) : Int) = (q : Int) + 1 := rfl
                rw [hq6] at hk1 ⊢
                clear hq6
                cases hP : nameO p.data.toList
                · obtain rfl := HXk.out (by rw [hP]; simp)
                  clear HXk HIk
                  go_wp2_with (fail)
                  generalize wr.alloc (.cells #[.string p, .string n, .int .i64 d, .bool f] 47) = w5 at *
                  obtain ⟨t0, t1, t2, t3, t8, t9, s0, s1, s2, s3, r0, r1, r2, r3⟩ := HCs.out
                  have zt0 := fun z : Bel w5 => z.cell t0
                  have zt1 := fun z : Bel w5 => z.cell t1
                  have zt2 := fun z : Bel w5 => z.cell t2
                  have zt3 := fun z : Bel w5 => z.cell t3
                  have zt8 := fun z : Bel w5 => z.cell t8
                  have zt9 := fun z : Bel w5 => z.cell t9
                  have zs0 := fun z : Bel w5 => z.cell s0
                  have zs1 := fun z : Bel w5 => z.cell s1
                  have zs2 := fun z : Bel w5 => z.cell s2
                  have zs3 := fun z : Bel w5 => z.cell s3
                  have zr0 := fun z : Bel w5 => z.cell r0
                  have zr1 := fun z : Bel w5 => z.cell r1
                  have zr2 := fun z : Bel w5 => z.cell r2
                  have zr3 := fun z : Bel w5 => z.cell r3
                  have HN : Hid (∀ W, Below w5.heap.size w5 W → Calls Tryz.prog 63 #[.string n] W fun e w' => e = .returned (.bool (nameO n.data.toList)) ∧ Below W.heap.size W w') := fun W _ => calls_bel (rname8_any n _ rfl W)
                  have HP : Hid (∀ W, Below w5.heap.size w5 W → Calls Tryz.prog 63 #[.string p] W fun e w' => e = .returned (.bool (nameO p.data.toList)) ∧ Below W.heap.size W w') := fun W _ => calls_bel (rname8_any p _ rfl W)
                  have HD : Hid (∀ W, Below w5.heap.size w5 W → Calls Tryz.prog 64 #[.int .i64 d] W fun e w' => e = .returned (.bool (dayO d)) ∧ Below W.heap.size W w') := fun W _ => calls_bel (rday_any d W)
                  have HBf : Hid (∀ W, Below w5.heap.size w5 W → Calls Tryz.prog 67 #[.agg #[.string p', .string n', .int .i64 d', .bool f'], .agg #[.string p, .string n, .int .i64 d, .bool f]] W fun e w' => e = .returned (.bool (ltK (Cx.key (p', n', d', f')) (Cx.key (p, n, d, f)))) ∧ Below W.heap.size W w') := fun W _ => pickBefore_any p' n' p n d' d f' f W
                  rw [hP] at HP
                  clear t0 t1 t2 t3 t8 t9 s0 s1 s2 s3 r0 r1 r2 r3 d0 d1 d2 d3 hP
                  refine wp_region_bel (by kernel_rfl) (by kernel_rfl) ?_
                  repeat (go_big_quiet_step (first
                    | (go_at_call 63; with_reducible exact Bel.calls HP.out _)
                    | (go_at_call 63; with_reducible exact Bel.calls HN.out _)
                    | (go_at_call 64; with_reducible exact Bel.calls HD.out _)
                    | (go_at_call 67; with_reducible exact Bel.calls HBf.out _)))
                  refine wpQuiet_nil ?_
                  rintro _ ⟨zz, rfl⟩
                  have HZW := Lib.hid (btO HW5.out zz.2)
                  generalize zz.1 = w6 at *
                  go_wp2_with (fail)
                  go_ret
                  exact ⟨rfl, btO HB.out HZW.out⟩
                cases hN : nameO n.data.toList
                · obtain rfl := HXk.out (by rw [hN]; simp)
                  clear HXk HIk
                  go_wp2_with (fail)
                  generalize wr.alloc (.cells #[.string p, .string n, .int .i64 d, .bool f] 47) = w5 at *
                  obtain ⟨t0, t1, t2, t3, t8, t9, s0, s1, s2, s3, r0, r1, r2, r3⟩ := HCs.out
                  have zt0 := fun z : Bel w5 => z.cell t0
                  have zt1 := fun z : Bel w5 => z.cell t1
                  have zt2 := fun z : Bel w5 => z.cell t2
                  have zt3 := fun z : Bel w5 => z.cell t3
                  have zt8 := fun z : Bel w5 => z.cell t8
                  have zt9 := fun z : Bel w5 => z.cell t9
                  have zs0 := fun z : Bel w5 => z.cell s0
                  have zs1 := fun z : Bel w5 => z.cell s1
                  have zs2 := fun z : Bel w5 => z.cell s2
                  have zs3 := fun z : Bel w5 => z.cell s3
                  have zr0 := fun z : Bel w5 => z.cell r0
                  have zr1 := fun z : Bel w5 => z.cell r1
                  have zr2 := fun z : Bel w5 => z.cell r2
                  have zr3 := fun z : Bel w5 => z.cell r3
                  have HN : Hid (∀ W, Below w5.heap.size w5 W → Calls Tryz.prog 63 #[.string n] W fun e w' => e = .returned (.bool (nameO n.data.toList)) ∧ Below W.heap.size W w') := fun W _ => calls_bel (rname8_any n _ rfl W)
                  have HP : Hid (∀ W, Below w5.heap.size w5 W → Calls Tryz.prog 63 #[.string p] W fun e w' => e = .returned (.bool (nameO p.data.toList)) ∧ Below W.heap.size W w') := fun W _ => calls_bel (rname8_any p _ rfl W)
                  have HD : Hid (∀ W, Below w5.heap.size w5 W → Calls Tryz.prog 64 #[.int .i64 d] W fun e w' => e = .returned (.bool (dayO d)) ∧ Below W.heap.size W w') := fun W _ => calls_bel (rday_any d W)
                  have HBf : Hid (∀ W, Below w5.heap.size w5 W → Calls Tryz.prog 67 #[.agg #[.string p', .string n', .int .i64 d', .bool f'], .agg #[.string p, .string n, .int .i64 d, .bool f]] W fun e w' => e = .returned (.bool (ltK (Cx.key (p', n', d', f')) (Cx.key (p, n, d, f)))) ∧ Below W.heap.size W w') := fun W _ => pickBefore_any p' n' p n d' d f' f W
                  rw [hN] at HN
                  rw [hP] at HP
                  clear t0 t1 t2 t3 t8 t9 s0 s1 s2 s3 r0 r1 r2 r3 d0 d1 d2 d3 hN hP
                  refine wp_region_bel (by kernel_rfl) (by kernel_rfl) ?_
                  repeat (go_big_quiet_step (first
                    | (go_at_call 63; with_reducible exact Bel.calls HP.out _)
                    | (go_at_call 63; with_reducible exact Bel.calls HN.out _)
                    | (go_at_call 64; with_reducible exact Bel.calls HD.out _)
                    | (go_at_call 67; with_reducible exact Bel.calls HBf.out _)))
                  refine wpQuiet_nil ?_
                  rintro _ ⟨zz, rfl⟩
                  have HZW := Lib.hid (btO HW5.out zz.2)
                  generalize zz.1 = w6 at *
                  go_wp2_with (fail)
                  go_ret
                  exact ⟨rfl, btO HB.out HZW.out⟩
                cases hD : dayO d
                · obtain rfl := HXk.out (by rw [hD]; simp)
                  clear HXk HIk
                  go_wp2_with (fail)
                  generalize wr.alloc (.cells #[.string p, .string n, .int .i64 d, .bool f] 47) = w5 at *
                  obtain ⟨t0, t1, t2, t3, t8, t9, s0, s1, s2, s3, r0, r1, r2, r3⟩ := HCs.out
                  have zt0 := fun z : Bel w5 => z.cell t0
                  have zt1 := fun z : Bel w5 => z.cell t1
                  have zt2 := fun z : Bel w5 => z.cell t2
                  have zt3 := fun z : Bel w5 => z.cell t3
                  have zt8 := fun z : Bel w5 => z.cell t8
                  have zt9 := fun z : Bel w5 => z.cell t9
                  have zs0 := fun z : Bel w5 => z.cell s0
                  have zs1 := fun z : Bel w5 => z.cell s1
                  have zs2 := fun z : Bel w5 => z.cell s2
                  have zs3 := fun z : Bel w5 => z.cell s3
                  have zr0 := fun z : Bel w5 => z.cell r0
                  have zr1 := fun z : Bel w5 => z.cell r1
                  have zr2 := fun z : Bel w5 => z.cell r2
                  have zr3 := fun z : Bel w5 => z.cell r3
                  have HN : Hid (∀ W, Below w5.heap.size w5 W → Calls Tryz.prog 63 #[.string n] W fun e w' => e = .returned (.bool (nameO n.data.toList)) ∧ Below W.heap.size W w') := fun W _ => calls_bel (rname8_any n _ rfl W)
                  have HP : Hid (∀ W, Below w5.heap.size w5 W → Calls Tryz.prog 63 #[.string p] W fun e w' => e = .returned (.bool (nameO p.data.toList)) ∧ Below W.heap.size W w') := fun W _ => calls_bel (rname8_any p _ rfl W)
                  have HD : Hid (∀ W, Below w5.heap.size w5 W → Calls Tryz.prog 64 #[.int .i64 d] W fun e w' => e = .returned (.bool (dayO d)) ∧ Below W.heap.size W w') := fun W _ => calls_bel (rday_any d W)
                  have HBf : Hid (∀ W, Below w5.heap.size w5 W → Calls Tryz.prog 67 #[.agg #[.string p', .string n', .int .i64 d', .bool f'], .agg #[.string p, .string n, .int .i64 d, .bool f]] W fun e w' => e = .returned (.bool (ltK (Cx.key (p', n', d', f')) (Cx.key (p, n, d, f)))) ∧ Below W.heap.size W w') := fun W _ => pickBefore_any p' n' p n d' d f' f W
                  rw [hD] at HD
                  rw [hP] at HP
                  rw [hN] at HN
                  clear t0 t1 t2 t3 t8 t9 s0 s1 s2 s3 r0 r1 r2 r3 d0 d1 d2 d3 hD hP hN
                  refine wp_region_bel (by kernel_rfl) (by kernel_rfl) ?_
                  repeat (go_big_quiet_step (first
                    | (go_at_call 63; with_reducible exact Bel.calls HP.out _)
                    | (go_at_call 63; with_reducible exact Bel.calls HN.out _)
                    | (go_at_call 64; with_reducible exact Bel.calls HD.out _)
                    | (go_at_call 67; with_reducible exact Bel.calls HBf.out _)))
                  refine wpQuiet_nil ?_
                  rintro _ ⟨zz, rfl⟩
                  have HZW := Lib.hid (btO HW5.out zz.2)
                  generalize zz.1 = w6 at *
                  go_wp2_with (fail)
                  go_ret
                  exact ⟨rfl, btO HB.out HZW.out⟩
                cases hL : ltK (Cx.key (p', n', d', f')) (Cx.key (p, n, d, f))
                · obtain rfl := HXk.out (by rw [hL]; simp)
                  clear HXk HIk
                  go_wp2_with (fail)
                  generalize wr.alloc (.cells #[.string p, .string n, .int .i64 d, .bool f] 47) = w5 at *
                  obtain ⟨t0, t1, t2, t3, t8, t9, s0, s1, s2, s3, r0, r1, r2, r3⟩ := HCs.out
                  have zt0 := fun z : Bel w5 => z.cell t0
                  have zt1 := fun z : Bel w5 => z.cell t1
                  have zt2 := fun z : Bel w5 => z.cell t2
                  have zt3 := fun z : Bel w5 => z.cell t3
                  have zt8 := fun z : Bel w5 => z.cell t8
                  have zt9 := fun z : Bel w5 => z.cell t9
                  have zs0 := fun z : Bel w5 => z.cell s0
                  have zs1 := fun z : Bel w5 => z.cell s1
                  have zs2 := fun z : Bel w5 => z.cell s2
                  have zs3 := fun z : Bel w5 => z.cell s3
                  have zr0 := fun z : Bel w5 => z.cell r0
                  have zr1 := fun z : Bel w5 => z.cell r1
                  have zr2 := fun z : Bel w5 => z.cell r2
                  have zr3 := fun z : Bel w5 => z.cell r3
                  have HN : Hid (∀ W, Below w5.heap.size w5 W → Calls Tryz.prog 63 #[.string n] W fun e w' => e = .returned (.bool (nameO n.data.toList)) ∧ Below W.heap.size W w') := fun W _ => calls_bel (rname8_any n _ rfl W)
                  have HP : Hid (∀ W, Below w5.heap.size w5 W → Calls Tryz.prog 63 #[.string p] W fun e w' => e = .returned (.bool (nameO p.data.toList)) ∧ Below W.heap.size W w') := fun W _ => calls_bel (rname8_any p _ rfl W)
                  have HD : Hid (∀ W, Below w5.heap.size w5 W → Calls Tryz.prog 64 #[.int .i64 d] W fun e w' => e = .returned (.bool (dayO d)) ∧ Below W.heap.size W w') := fun W _ => calls_bel (rday_any d W)
                  have HBf : Hid (∀ W, Below w5.heap.size w5 W → Calls Tryz.prog 67 #[.agg #[.string p', .string n', .int .i64 d', .bool f'], .agg #[.string p, .string n, .int .i64 d, .bool f]] W fun e w' => e = .returned (.bool (ltK (Cx.key (p', n', d', f')) (Cx.key (p, n, d, f)))) ∧ Below W.heap.size W w') := fun W _ => pickBefore_any p' n' p n d' d f' f W
                  rw [hP] at HP
                  rw [hN] at HN
                  rw [hD] at HD
                  rw [hL] at HBf
                  clear t0 t1 t2 t3 t8 t9 s0 s1 s2 s3 r0 r1 r2 r3 d0 d1 d2 d3 hP hN hD
                  refine wp_region_bel (by kernel_rfl) (by kernel_rfl) ?_
                  repeat (go_big_quiet_step (first
                    | (go_at_call 63; with_reducible exact Bel.calls HP.out _)
                    | (go_at_call 63; with_reducible exact Bel.calls HN.out _)
                    | (go_at_call 64; with_reducible exact Bel.calls HD.out _)
                    | (go_at_call 67; with_reducible exact Bel.calls HBf.out _)))
                  refine wpQuiet_nil ?_
                  rintro _ ⟨zz, rfl⟩
                  have HZW := Lib.hid (btO HW5.out zz.2)
                  generalize zz.1 = w6 at *
                  go_wp2_with (fail)
                  go_ret
                  exact ⟨rfl, btO HB.out HZW.out⟩
                · have HI2 := Lib.hid (HIk.out (by rw [hP, hN, hD, hL]; rfl))
                  clear HXk HIk
                  go_wp2_with (fail)
                  generalize wr.alloc (.cells #[.string p, .string n, .int .i64 d, .bool f] 47) = w5 at *
                  obtain ⟨t0, t1, t2, t3, t8, t9, s0, s1, s2, s3, r0, r1, r2, r3⟩ := HCs.out
                  have zt0 := fun z : Bel w5 => z.cell t0
                  have zt1 := fun z : Bel w5 => z.cell t1
                  have zt2 := fun z : Bel w5 => z.cell t2
                  have zt3 := fun z : Bel w5 => z.cell t3
                  have zt8 := fun z : Bel w5 => z.cell t8
                  have zt9 := fun z : Bel w5 => z.cell t9
                  have zs0 := fun z : Bel w5 => z.cell s0
                  have zs1 := fun z : Bel w5 => z.cell s1
                  have zs2 := fun z : Bel w5 => z.cell s2
                  have zs3 := fun z : Bel w5 => z.cell s3
                  have zr0 := fun z : Bel w5 => z.cell r0
                  have zr1 := fun z : Bel w5 => z.cell r1
                  have zr2 := fun z : Bel w5 => z.cell r2
                  have zr3 := fun z : Bel w5 => z.cell r3
                  have HN : Hid (∀ W, Below w5.heap.size w5 W → Calls Tryz.prog 63 #[.string n] W fun e w' => e = .returned (.bool (nameO n.data.toList)) ∧ Below W.heap.size W w') := fun W _ => calls_bel (rname8_any n _ rfl W)
                  have HP : Hid (∀ W, Below w5.heap.size w5 W → Calls Tryz.prog 63 #[.string p] W fun e w' => e = .returned (.bool (nameO p.data.toList)) ∧ Below W.heap.size W w') := fun W _ => calls_bel (rname8_any p _ rfl W)
                  have HD : Hid (∀ W, Below w5.heap.size w5 W → Calls Tryz.prog 64 #[.int .i64 d] W fun e w' => e = .returned (.bool (dayO d)) ∧ Below W.heap.size W w') := fun W _ => calls_bel (rday_any d W)
                  have HBf : Hid (∀ W, Below w5.heap.size w5 W → Calls Tryz.prog 67 #[.agg #[.string p', .string n', .int .i64 d', .bool f'], .agg #[.string p, .string n, .int .i64 d, .bool f]] W fun e w' => e = .returned (.bool (ltK (Cx.key (p', n', d', f')) (Cx.key (p, n, d, f)))) ∧ Below W.heap.size W w') := fun W _ => pickBefore_any p' n' p n d' d f' f W
                  rw [hP] at HP
                  rw [hN] at HN
                  rw [hD] at HD
                  rw [hL] at HBf
                  clear t0 t1 t2 t3 t8 t9 s0 s1 s2 s3 r0 r1 r2 r3 d0 d1 d2 d3 hP hN hD
                  refine wp_region_bel (by kernel_rfl) (by kernel_rfl) ?_
                  repeat (go_big_quiet_step (first
                    | (go_at_call 63; with_reducible exact Bel.calls HP.out _)
                    | (go_at_call 63; with_reducible exact Bel.calls HN.out _)
                    | (go_at_call 64; with_reducible exact Bel.calls HD.out _)
                    | (go_at_call 67; with_reducible exact Bel.calls HBf.out _)))
                  refine wpQuiet_nil ?_
                  rintro _ ⟨zz, rfl⟩
                  have HZW := Lib.hid (btO HW5.out zz.2)
                  generalize zz.1 = w6 at *
                  go_wp2_with (fail)
                  go_roundw
                  case rel => exact ⟨q + 1 + 1, by omega, by go_num, HI2, HZW⟩
                  case measure => simp [intOf]; omega
            · obtain rfl : k = cs.length := by omega
              obtain rfl : R = 0 := HX0.out (fun i h => HJF.out i h) (fun i h => HJ.out i h)
              clear HJ HJF HX0 HXF HXC
              go_wp2_with (fail)
              go_ret
              exact ⟨rfl, btO HB.out HW.out⟩
end Go.Proofs.YtbfimfjhdbpenaaGreatDoor
