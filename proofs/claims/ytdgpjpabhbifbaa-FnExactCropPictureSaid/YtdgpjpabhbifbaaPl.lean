import Derived.Test.YtdgpjpabhbifbaaPs
import Derived.Deep.RegionLaw
set_option linter.unusedVariables false
set_option linter.unusedSimpArgs false
namespace Go.FX
open Go Go.RowKit

/-- A picture in the making: the variable at bo, its row, all of the call's own. -/
def Mk (E : TypeId) (w0 : World) (bo : Nat) (W H : Int) (cs : List Nat) (wr : World) : Prop :=
  ∃ a n c, Nv wr bo (.int .i64 W) (.int .i64 H) (.slice a n c) ∧ OC wr w0.heap.size E (.slice a n c) cs ∧ (Value.slice a n c).ownBlock ≠ some bo ∧ w0.heap.size ≤ bo ∧ Below w0.heap.size w0 wr
theorem Mk.drewN {E : TypeId} {w0 : World} {bo : Nat} {W H : Int} {cs : List Nat} {wr : World} (h : Mk E w0 bo W H cs wr) (k : Nat) : Mk E w0 bo W H cs (wr.drewN k) := by
  obtain ⟨a, n, c, h1, h2, h3, h4, h5⟩ := h
  exact ⟨a, n, c, h1.drewN k, h2.drewN k, h3, h4, below_drewN h5 k⟩
theorem ownsRow_set_other {w : World} {base : Nat} {e : TypeId} {v : Value} {n : Nat} {xs : List Value} (h : w.ownsRow base e 1 v n xs) {a : Addr} (ha : v.ownBlock ≠ some a.block) (u : Value) : (w.setCell a u).ownsRow base e 1 v n xs := ownsRow_setCell_other h ha u
theorem Mk.step {E : TypeId} {w0 : World} {bo : Nat} {W H : Int} {cs : List Nat} {wr w3 : World} {a : Option Addr} {n c : Nat} {zs : List Nat} {r cv g cap : Nat} {o : Obj} {m : Nat}
    (hN : Nv wr bo (.int .i64 W) (.int .i64 H) (.slice a n c)) (hrow : wr.ownsRow w0.heap.size E 1 (.slice a n c) zs.length (zs.map (.float .f32))) (hz : ∀ z ∈ zs, z < width .f32) (hm : zs.map (cn .f32) = cs)
    (hne : (Value.slice a n c).ownBlock ≠ some bo) (hbo : w0.heap.size ≤ bo) (hb : Below w0.heap.size w0 wr) (hr : Fl .f32 r cv)
    (hown : w3.ownsRow w0.heap.size E 1 (.slice (some ⟨g, 0, none⟩) (zs.length + 1) cap) (zs.length + 1) (zs.map (.float .f32) ++ [.float .f32 r]))
    (hgrow : ((wr.alloc o).drewN m).grownBy w3 (Value.slice a n c).ownBlock) (hat : (Value.slice a n c).ownBlock = some g ∨ g = wr.heap.size + 1) :
    Mk E w0 bo W H (cs ++ [cv]) (w3.setCell ⟨bo, 2, none⟩ (.slice (some ⟨g, 0, none⟩) (zs.length + 1) cap)) := by
  have hN3 := ((hN.alloc o).drewN m).kept hgrow hne
  have hg : (Value.slice (some ⟨g, 0, none⟩) (zs.length + 1) cap).ownBlock ≠ some bo := by
    simp only [Value.ownBlock, ne_eq, Option.some.injEq]
    rcases hat with h | h
    · intro e; rw [h, e] at hne; exact hne rfl
    · have := hN.1; omega
  obtain ⟨zs', k1, k2, k3⟩ := OC.push hz hm hr hown
  refine ⟨_, _, _, hN3.set2, ⟨zs', k1, k2, ownsRow_set_other k3 (by exact hg) _⟩, hg, hbo, ?_⟩
  have h1 : Below w0.heap.size w0 ((wr.alloc o).drewN m) := below_drewN (hb.alloc hb.size o) m
  exact (h1.grown hgrow (by have := hb.size; simp; omega) (fun k hk => (hrow.lt k hk).1)).setCell (by exact hbo) _
theorem Mk.nv3 {bo : Nat} {wr w3 : World} {x y z : Value} {o : Obj} {m : Nat} {row : Option Nat} (hN : Nv wr bo x y z) (hne : row ≠ some bo) (hgrow : ((wr.alloc o).drewN m).grownBy w3 row) : Nv w3 bo x y z := ((hN.alloc o).drewN m).kept hgrow hne
theorem Nv.set0 {w : World} {b : Nat} {x y z x' : Value} (h : Nv w b x y z) : Nv (w.setCell ⟨b, 0, none⟩ x') b x' y z := by
  obtain ⟨h0, h1, h2, h3, h4⟩ := h
  refine ⟨by simpa [World.setCell] using h0, ?_, ?_, ?_, fun o => ?_⟩
  · exact World.cell?_setCell_same _ _ _ h1
  · rw [World.cell?_setCell_other _ _ _ _ (by simp)]; exact h2
  · rw [World.cell?_setCell_other _ _ _ _ (by simp)]; exact h3
  · rw [World.frozen?_setCell]; exact h4 o
theorem Nv.set1 {w : World} {b : Nat} {x y z y' : Value} (h : Nv w b x y z) : Nv (w.setCell ⟨b, 1, none⟩ y') b x y' z := by
  obtain ⟨h0, h1, h2, h3, h4⟩ := h
  refine ⟨by simpa [World.setCell] using h0, ?_, ?_, ?_, fun o => ?_⟩
  · rw [World.cell?_setCell_other _ _ _ _ (by simp)]; exact h1
  · exact World.cell?_setCell_same _ _ _ h2
  · rw [World.cell?_setCell_other _ _ _ _ (by simp)]; exact h3
  · rw [World.frozen?_setCell]; exact h4 o
theorem undrew {n : Nat} {w w1 : World} (h : Below n w.drew w1) : Below n w w1 := ⟨h.os, h.tape, h.output, h.size, h.block⟩
theorem Mk.start1 {E T : TypeId} {w0 w1 : World} {W H : Int} {a : Option Addr} {n c : Nat} {cs : List Nat} (hb : Below w0.heap.size w0 w1) (ho : OC w1 w0.heap.size E (.slice a n c) cs) :
    Mk E w0 w1.heap.size W H cs (w1.alloc (.cells #[.int .i64 W, .int .i64 H, .slice a n c] T)) := by
  refine ⟨a, n, c, Nv.new _ _ _ _ _, ho.alloc _, fun e => ?_, hb.size, hb.alloc hb.size _⟩
  have := (ho.lt _ e).2
  omega
theorem Mk.start2 {E T : TypeId} {w0 w1 : World} {W H : Int} {x y z : Value} {a : Option Addr} {n c : Nat} {cs : List Nat} (hb : Below (w0.alloc (.cells #[x, y, z] T)).heap.size (w0.alloc (.cells #[x, y, z] T)) w1) (ho : OC w1 (w0.alloc (.cells #[x, y, z] T)).heap.size E (.slice a n c) cs) :
    Mk E w0 w0.heap.size W H cs (((w1.setCell ⟨w0.heap.size, 0, none⟩ (.int .i64 W)).setCell ⟨w0.heap.size, 1, none⟩ (.int .i64 H)).setCell ⟨w0.heap.size, 2, none⟩ (.slice a n c)) := by
  have hN := (Nv.new w0 x y z T).below hb
  simp only [World.size_alloc] at ho hb
  refine ⟨a, n, c, hN.set0.set1.set2, ?_, fun e => ?_, Nat.le_refl _, ?_⟩
  · exact OC.mono (((ho.set _ (Nat.lt_succ_self _)).set _ (Nat.lt_succ_self _)).set _ (Nat.lt_succ_self _)) (Nat.le_succ _)
  · have := (ho.lt _ e).1; omega
  · exact ((((below1 w0 _).trans (hb.mono (Nat.le_succ _))).setCell (by simp) _).setCell (by simp) _).setCell (by simp) _
/-- A step of a region that draws, its operation without a guard. -/
theorem step_plain {P : Program} {ops : Array Oper} {o : Oper} {a : Act} {w : World} {K : Act → World → Prop} {Q : Exit → Act → World → Prop} {E : Prop} (hg : o.guard = none) (h : Oper.wp P o a w K Q) :
    if Region.wanted o (yielded ops a.tmps) = true then Oper.wp P o a w K Q else E := by
  rw [if_pos (by simp [Region.wanted, hg])]; exact h
theorem Mk.pv3 {w0 wr w3 : World} {bp : Nat} {W H : Int} {v : Value} {o : Obj} {m : Nat} {row : Option Nat} (hp : Pv wr bp W H v) (hgrow : ((wr.alloc o).drewN m).grownBy w3 row) (hr : ∀ k, row = some k → w0.heap.size ≤ k) (hb : bp < w0.heap.size) : Pv w3 bp W H v :=
  ((hp.alloc o).drewN m).kept hgrow (fun e => by have := hr _ e; omega)
end Go.FX
namespace Go.Proofs.Ytdgpjpabhbifbaa
open Go.FX Go.RowKit Go.WideShapes Go.ChangeShapes

theorem specNew_any (W H : Int) (w : World) : Calls Try.prog 53 #[.int .i64 W, .int .i64 H] w (RPic1 32 W H [] w) := by
  go_enter Try.func53, Try.ntmps53
  go_wp2
  refine bodyPost_ret (v := ?v) ?hr rfl ?post
  case hr => (simp [results, Try.results53, go_sem]; try rfl)
  case post =>
    have ho := World.ownsRow_lit (base := w.heap.size) (e := 32) (size := 1) (w.alloc (.cells #[.int .i64 W, .int .i64 H, .slice (some ⟨w.heap.size + 1, 0, none⟩) 0 0] 27)) #[] 0 (by simp) (by simp [maxLen]) (by simp)
    refine ⟨_, _, _, rfl, ?_, ?_⟩
    · ((repeat' (first | exact Below.refl _ _ | assumption | (refine bel_set ?_ ?_ _) | (refine bel_al ?_ ?_ _) | (refine below_drewN ?_ _) | (refine Below.drew ?_))) <;> (first | omega | (simp; done) | (simp; omega)))
    · exact ⟨[], by simp, rfl, by simpa using ho⟩

set_option maxHeartbeats 4000000 in
theorem specMirror_any (W H : Nat) (a0 : Option Addr) (n0 c0 bp : Nat) (cs : List Nat) (w : World) (hp : Pv w bp W H (.slice a0 n0 c0)) (hv : FC w (.slice a0 n0 c0) cs) (b1 : 1 ≤ W) (b2 : W ≤ 24) (b3 : 1 ≤ H) (b4 : H ≤ 24) (b5 : H * W ≤ 256) (hl : cs.length = H * W) :
    Calls Try.prog 64 #[.pointer (some ⟨bp, 0, none⟩)] w (RPic1 32 W H (gridL W (fun x y => atC W H cs ((W : Int) - 1 - x) y) (H * W)) w) := by
  obtain ⟨i0, hi, hz0, hz1, hz2⟩ := info_parts info_f32
  obtain ⟨rfl, hnc, hcm⟩ := hv.sized
  have hl' := Lib.hid hl
  clear hl
  go_enter Try.func64, Try.ntmps64
  go_upto_region 1 with fail
  obtain ⟨w0, hw0⟩ : ∃ w0, w0 = w.alloc (.cells #[.int .i64 0, .int .i64 0, .slice none 0 0] 27) := ⟨_, rfl⟩
  rw [← hw0]
  have hp0 : Pv w0 bp W H (.slice a0 cs.length c0) := by rw [hw0]; exact hp.alloc _
  have hv0 : FC w0 (.slice a0 cs.length c0) cs := by rw [hw0]; exact hv.alloc _
  have hn0 : Nv w0 w.heap.size (.int .i64 0) (.int .i64 0) (.slice none 0 0) := by rw [hw0]; exact Nv.new _ _ _ _ _
  have hb0 : Below w.heap.size w w0 := by rw [hw0]; exact below1 _ _
  have hlt0 : w.heap.size < w0.heap.size := hn0.1
  clear hw0 hp hv
  obtain ⟨hp1, p0, p1, p2⟩ := id hp0
  have hpv := Lib.hid (And.intro hp0 (And.intro hv0 (And.intro hn0 hb0)))
  clear hp0 hv0 hn0 hb0
  go_cut [3] (fun s3 wx => ∃ bo, s3 = .pointer (some ⟨bo, 0, none⟩) ∧ Mk 32 w0 bo W H [] wx)
  case first =>
    go_region_held3 (fun w' => Below w0.heap.size w0 w' ∧ w0.heap.size ≤ w'.heap.size ∧ (∀ b o, b < w0.heap.size → w'.cell? ⟨b, o, none⟩ = w0.cell? ⟨b, o, none⟩)) (first | exact keepStart _ | assumption | exact ⟨by assumption, by assumption, by assumption⟩ | exact keepCall (by assumption) (by assumption) | exact keepAlloc (by assumption) | (refine keepSet ?_ (keepSet ?_ (keepSet ?_ ?_)) <;> first | assumption | omega | (simp; done) | (simp; omega)) | (refine keepSet ?_ (keepSet ?_ ?_) <;> first | assumption | omega | (simp; done) | (simp; omega)) | (refine keepSet ?_ ?_ <;> first | assumption | omega | (simp; done) | (simp; omega)))
      (first | (go_at_call 53; refine (specNew_any _ _ _).mono ?_; rintro e w1 ⟨a1, n1, c1, rfl, hb1, ho1⟩; have hI := keepCall (n := w0.heap.size) (W1 := w0) (by assumption) hb1; obtain ⟨hc, hf⟩ := bcell hb1; have hz := hb1.size; (try simp at hz); (try simp only [World.size_drew, World.cell?_drew] at hc); (try simp only [World.size_drew, World.frozen?_drew] at hf); first | (have hs := Nat.lt_of_succ_le hz) | (have hs := Nat.lt_of_lt_of_le hs hz) | skip))
    all_goals go_wp2_with fail
    all_goals go_meet
    · exact ⟨_, rfl, Mk.start1 (undrew hb1) ho1⟩
    · exact ⟨_, rfl, Mk.start2 (undrew hb1) ho1⟩
  case rest =>
    obtain ⟨bo, rfl, hmk⟩ := hcut
    have hmk := Lib.hid hmk
    go_wp2_with fail
    go_loopw [4] (fun i wr => ∃ y : Nat, y ≤ H ∧ i = .int .i64 y ∧ Hid (Mk 32 w0 bo W H (gridL W (fun x y => atC W H cs ((W : Int) - 1 - x) y) (y * W + 0)) wr)) (fun i _ => H - (intOf i).toNat)
    case atStart => exact ⟨0, Nat.zero_le _, rfl, by simpa [gridL] using hmk⟩
    case round =>
      clear hmk
      obtain ⟨y, hy, rfl, hmk⟩ := hrel
      obtain ⟨wo, rfl⟩ : ∃ wo : World, wo = wr := ⟨_, rfl⟩
      have hbl : Below w0.heap.size w0 wo := hmk.out.choose_spec.choose_spec.choose_spec.2.2.2.2
      obtain ⟨_, e0, e1, e2⟩ := hpv.out.1.below hbl
      have hbl := Lib.hid hbl
      by_cases hly : y < H
      · go_wp2_with fail
        clear e0 e1 e2 hbl
        go_loopw [5] (fun i wr => ∃ x : Nat, x ≤ W ∧ i = .int .i64 x ∧ Hid (Mk 32 w0 bo W H (gridL W (fun x y => atC W H cs ((W : Int) - 1 - x) y) (y * W + x)) wr)) (fun i _ => W - (intOf i).toNat)
        case atStart => exact ⟨0, Nat.zero_le _, rfl, hmk⟩
        case round =>
          clear hmk
          obtain ⟨x, hx, rfl, hmk⟩ := hrel
          obtain ⟨a, n, c, hN, ⟨zs, hz, hzm, hrow⟩, hne, hbo, hbl⟩ := hmk.out
          obtain ⟨_, e0, e1, e2⟩ := hpv.out.1.below hbl
          by_cases hlx : x < W
          · have hlen : zs.length = y * W + x := by rw [← gridL_len W (fun x y => atC W H cs ((W : Int) - 1 - x) y) (y * W + x), ← hzm, List.length_map]
            have hle : y * W + x + 1 ≤ 256 := by
              have h1 : y * W + W ≤ H * W := by rw [← Nat.succ_mul]; exact Nat.mul_le_mul_right _ hly
              omega
            have hh := Lib.hid (And.intro hz (And.intro hzm (And.intro hlen (And.intro hle (And.intro hbl hN)))))
            have hat := fun w1 (hb1 : Below wr.heap.size wr w1) => specAt_any W H a0 cs.length c0 bp cs ((W : Int) - 1 - x) y w1 ((hpv.out.1.below hbl).below hb1) ((hpv.out.2.1.below hbl).below hb1) b1 b2 b3 b4 hl'.out
            have hrowA : ∀ (o : Obj) (m : Nat), ((wr.alloc o).drewN m).ownsRow w0.heap.size 32 1 (.slice a n c) zs.length (zs.map (.float .f32)) := fun o m => hrow.alloc o
            have hsz : w0.heap.size ≤ wr.heap.size := hbl.size
            have k2 : wr.cell? ⟨bo, 2, none⟩ = some (.slice a n c) := hN.2.2.2.1
            have hbo2 : bo < wr.heap.size := hN.1
            clear hlen hzm hz hbl hmk hN e1 e2
            go_wp2_with fail
            have s1 : IntKind.i64.wrap ((W : Int) - 1) = (W : Int) - 1 := IntWalk.i64_in _ (by omega)
            have s2 : IntKind.i64.wrap ((W : Int) - 1 - (x : Int)) = (W : Int) - 1 - (x : Int) := IntWalk.i64_in _ (by omega)
            go_region_law
              (first
                | (refine step_append_lies _ (by rfl) _ _ _ (by rfl) w0.heap.size 32 i0 _ 1 4 Try.underlying22 hi hz0 hz1 hz2 rfl (by omega) (.slice a n c) zs.length (zs.map (.float .f32)) (by rfl) (hrowA _ _)
                    ⟨wr.heap.size, 0, none⟩ 1 1 [.float .f32 r] (by rfl) (by rfl) (World.news_of_block (cs := #[.float .f32 r]) (t := 32) (fr := (0, 0)) (heap_alloc_new wr _)) (by simp [Value.oneCell'])
                    (by omega) (by have := hh.out.2.2; unfold maxLen; omega) (by have := hh.out.2.2; omega) (by simp; omega) (wr.heap.size + 1) (by simp) ?_; intro gg cap w3 hown3 hgrow hat3 hlt3; have hN3 := Mk.nv3 hh.out.2.2.2.2.2 hne hgrow; have j2 := hN3.2.2.2.1; have jf := hN3.2.2.2.2 2)
                | (refine step_plain rfl ?_; go_wp2_with (go_at_call 59; refine (hat _ (by ((repeat' (first | exact Below.refl _ _ | assumption | (refine bel_set ?_ ?_ _) | (refine bel_al ?_ ?_ _) | (refine below_drewN ?_ _) | (refine Below.drew ?_))) <;> (first | omega | (simp; done) | (simp; omega))))).mono ?_; rintro e w2 ⟨r, k, rfl, rfl, hr⟩)))
            all_goals
              have hM : Mk 32 w0 bo W H (gridL W (fun x y => atC W H cs ((W : Int) - 1 - x) y) (y * W + (x + 1))) (w3.setCell ⟨bo, 2, none⟩ (.slice (some ⟨gg, 0, none⟩) (zs.length + 1) cap)) := by
                rw [gridL_step W _ y hlx]
                exact Mk.step hh.out.2.2.2.2.2 hrow hh.out.1 hh.out.2.1 hne hbo hh.out.2.2.2.2.1 hr hown3 hgrow hat3
              have hM := Lib.hid hM
              clear hgrow hown3 hat3 hrow hrowA s1 s2
              go_wp2_with fail
              go_roundw
              case rel => exact ⟨x + 1, by omega, by go_num, by first | exact hM | exact Lib.hid (hM.out.drewN _)⟩
              case measure => simp [intOf]; omega
          · obtain rfl : x = W := by omega
            rw [gridL_row] at hmk
            have hN := Lib.hid (And.intro hN (And.intro hz (And.intro hzm (And.intro hrow (And.intro hne (And.intro hbo hbl))))))
            go_wp2_with fail
            go_roundw
            case rel => exact ⟨y + 1, by omega, by go_num, hmk⟩
            case measure => simp [intOf]; omega
      · obtain rfl : y = H := by omega
        obtain ⟨a, n, c, hN, hoc, hne, hbo, hbl2⟩ := hmk.out
        obtain ⟨_, f0, f1, f2, f3⟩ := hN
        obtain ⟨_, r0, r1, r2, rf⟩ := hpv.out.2.2.1.below hbl2
        have hoc := Lib.hid hoc
        go_wp2_with fail
        refine bodyPost_ret (v := ?v) ?hr rfl ?post
        case hr => (simp [results, Try.results64, go_sem, f0, f1, f2, r0, r1, r2, rf]; try rfl)
        case post =>
          have h0 := hpv.out.2.2.2
          have ho := hoc.out
          rw [Nat.add_zero] at ho
          refine ⟨_, _, _, rfl, ?_, ?_⟩
          · ((repeat' (first | exact Below.refl _ _ | assumption | (refine bel_set ?_ ?_ _) | (refine bel_al ?_ ?_ _) | (refine below_drewN ?_ _) | (refine Below.drew ?_) | (refine Below.trans ?_ (Below.mono hbl2 ?_)))) <;> (first | omega | (simp; done) | (simp; omega)))
          · (refine OC.mono (base := ?bb) ?hh ?hl; (case hh => ((repeat' (first | exact ho | (refine OC.set ?_ _ ?_) | (refine OC.alloc ?_ _) | (refine OC.drewN ?_ _))) <;> (first | omega | (simp; done) | (simp; omega)))); (case hl => (first | omega | (simp; done) | (simp; omega))))

end Go.Proofs.Ytdgpjpabhbifbaa
