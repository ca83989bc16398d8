import Derived.Test.YtmbohiebjgafoaaBase
import Derived.Test.YtmbohiebjgafoaaHeld
set_option linter.unusedVariables false
set_option linter.unusedSimpArgs false
namespace Go.FX
open Go Go.RowKit

/-- A slice of 32-bit numbers as it reads in w: the numbers' bits. -/
def FS (w : World) (v : Value) (zs : List Nat) : Prop :=
  (∀ z ∈ zs, z < width .f32) ∧ ∃ a cap, v = .slice a zs.length cap ∧ zs.length ≤ cap ∧ cap ≤ maxLen ∧
    (zs = [] ∨ ∃ b off, a = some ⟨b, off, none⟩ ∧ b < w.heap.size ∧ ∀ i, i < zs.length → w.cell? ⟨b, off + i, none⟩ = some (.float .f32 (zs.getD i 0)))
theorem FS.below {w w' : World} {v : Value} {zs : List Nat} (h : FS w v zs) (hb : Below w.heap.size w w') : FS w' v zs := by
  obtain ⟨hz, a, cap, hv, h1, h2, h3⟩ := h
  refine ⟨hz, a, cap, hv, h1, h2, ?_⟩
  rcases h3 with h3 | ⟨b, off, ha, hlt, hc⟩
  · exact .inl h3
  · refine .inr ⟨b, off, ha, Nat.lt_of_lt_of_le hlt hb.size, fun i hi => ?_⟩
    rw [(bcell hb).1 b (off + i) hlt]; exact hc i hi

theorem FS.drewN {w : World} {v : Value} {zs : List Nat} (h : FS w v zs) (n : Nat) : FS (w.drewN n) v zs := h
theorem FS.of_own {w : World} {base e g : Nat} {zs : List Nat} (hz : ∀ z ∈ zs, z < width .f32) (hn : zs.length ≤ maxLen) (h : w.ownsRow base e 1 (.slice (some ⟨g, 0, none⟩) zs.length zs.length) zs.length (zs.map (.float .f32))) : FS w (.slice (some ⟨g, 0, none⟩) zs.length zs.length) zs := by
  refine ⟨hz, _, _, rfl, Nat.le_refl _, hn, ?_⟩
  by_cases h0 : zs = []
  · exact .inl h0
  · have hpos : 0 < zs.length := List.length_pos_iff.2 h0
    have hc : ∀ i, i < zs.length → w.cell? ⟨g, 0 + i, none⟩ = some (.float .f32 (zs.getD i 0)) := fun i hi => by
      rw [Nat.zero_add, h.cellAt i (by omega)]; simp [List.getD, hi]
    refine .inr ⟨g, 0, rfl, ?_, hc⟩
    have h1 := hc 0 hpos
    rcases h.2 with ⟨h', _⟩ | ⟨g', cap', cur, h', _, hg, _⟩
    · simp at h'
    · simp only [Value.slice.injEq, Option.some.injEq, Addr.mk.injEq, and_true, true_and] at h'
      obtain ⟨rfl, rfl⟩ := h'
      exact (Array.getElem?_eq_some_iff.1 hg).1
theorem FS.cell {w : World} {v : Value} {zs : List Nat} (h : FS w v zs) {k : Nat} (hk : k < zs.length) :
    ∃ b off cap z, v = .slice (some ⟨b, off, none⟩) zs.length cap ∧ zs.length ≤ cap ∧ cap ≤ maxLen ∧ b < w.heap.size ∧ z = zs.getD k 0 ∧ z < width .f32 ∧ w.cell? ⟨b, off + k, none⟩ = some (.float .f32 z) := by
  obtain ⟨hz, a, cap, rfl, h1, h2, h3⟩ := h
  rcases h3 with h3 | ⟨b, off, rfl, hb, hc⟩
  · subst h3; simp at hk
  · refine ⟨b, off, cap, zs.getD k 0, rfl, h1, h2, hb, rfl, ?_, hc k hk⟩
    apply hz
    simp [List.getD, hk]

/-- A world behind some draws. -/
def Drewn (w w' : World) : Prop := ∃ n, w' = w.drewN n
theorem Drewn.more {w w' : World} (h : Drewn w w') (n : Nat) : Drewn w (w'.drewN n) := by obtain ⟨m, rfl⟩ := h; exact ⟨m + n, by simp⟩

theorem Drewn.drew {w w' : World} (h : Drewn w w') : Drewn w w'.drew := h.more 1

/-! Sums. -/
def sumF (l : List Nat) : Nat := l.foldl (fun c z => fop .add .f32 c (cn .f32 z)) 0
theorem take_step (l : List Nat) (k : Nat) (h : k < l.length) : l.take (k + 1) = l.take k ++ [l.getD k 0] := by
  rw [List.take_succ_eq_append_getElem h]; simp [List.getD, h]
theorem sumF_step (l : List Nat) (k : Nat) (h : k < l.length) : sumF (l.take (k + 1)) = fop .add .f32 (sumF (l.take k)) (cn .f32 (l.getD k 0)) := by
  rw [take_step l k h]; simp [sumF]
theorem take_all (l : List Nat) (k : Nat) (h : ¬ k < l.length) : l.take k = l := List.take_of_length_le (by omega)

/-- The cells of a copy in the making. -/
def xsAt (zs : List Nat) (k : Nat) : List Value := (zs.take k).map (.float .f32) ++ List.replicate (zs.length - k) (.float .f32 0)
theorem xsAt_zero (zs : List Nat) : xsAt zs 0 = List.replicate zs.length (.float .f32 0) := by simp [xsAt]
theorem xsAt_end (zs : List Nat) (k : Nat) (h : ¬ k < zs.length) : xsAt zs k = zs.map (.float .f32) := by
  unfold xsAt
  rw [List.take_of_length_le (by omega), show zs.length - k = 0 by omega]; simp
theorem xsAt_length (zs : List Nat) (k : Nat) (h : k ≤ zs.length) : (xsAt zs k).length = zs.length := by
  simp [xsAt]; omega
theorem xsAt_get (zs : List Nat) (k : Nat) (h : k < zs.length) : (xsAt zs k)[k]? = some (.float .f32 0) := by
  unfold xsAt
  rw [List.getElem?_append_right (by simp; omega)]
  simp [List.getElem?_replicate]; omega
theorem xsAt_set (zs : List Nat) (k : Nat) (h : k < zs.length) : (xsAt zs k).set k (.float .f32 (zs.getD k 0)) = xsAt zs (k + 1) := by
  unfold xsAt
  have e1 : ((zs.take k).map (Value.float .f32)).length = k := by simp; omega
  rw [List.set_append_right _ _ (by rw [e1]; omega)]
  rw [e1, Nat.sub_self]
  have e2 : zs.length - k = (zs.length - (k + 1)) + 1 := by omega
  rw [e2, List.replicate_succ, List.set_cons_zero]
  have e3 : zs.take (k + 1) = zs.take k ++ [zs.getD k 0] := by
    rw [List.take_succ_eq_append_getElem h]; simp [List.getD, h]
  rw [e3]; simp
theorem made_float (n : Nat) (x : Value) : (madeCells #[x] n).toList = List.replicate n x := by
  unfold madeCells
  apply List.ext_getElem
  · simp
  · intro i h1 h2
    simp [Nat.mod_one]
end Go.FX
namespace Go.Proofs.Ytmbohiebjgafoaa
open Go.FX Go.RowKit Go.WideShapes Go.ChangeShapes

def numF {H : Type} (y : DataW H × List MemPlace) : Nat := match y.1 with | .lit (.float _ n) => n | _ => 0
/-- A slice of 32-bit numbers that came in, opened. -/
theorem fs_of {H : Type} {enc : TypeId × Value → H} {P : Program} {w : World} {base : Nat} {spare : Nat → Bool} {held : Bool} {t e : TypeId} {a : Option Addr} {len cap : Nat} {d : DataW H} {ps : List MemPlace}
    (ht : P.underlying t = some (.slice e)) (he : P.underlying e = some (.float .f32)) (hc : P.cellsOf e = 1) (h : DataW.Trod enc P w base spare held t (.slice a len cap) d ps) : ∃ zs, FS w (.slice a len cap) zs := by
  obtain ⟨fuel, hf⟩ := h
  rcases DataW.trod_slice ht hf with ⟨h0, _⟩ | ⟨x, len', cap', elems, rest, n, _, hcs, _, hb, hl, hm, hlen, hel, _, _⟩
  · simp [Value.cells] at h0
    obtain ⟨rfl, rfl, rfl⟩ := h0
    exact ⟨[], by simp, none, 0, rfl, Nat.le_refl _, by simp, .inl rfl⟩
  · simp [Value.cells] at hcs
    obtain ⟨rfl, rfl, rfl⟩ := hcs
    have each : ∀ i y, i < len → elems[i]? = some y → (Lit.float .f32 (numF y)).wf = true ∧ w.cell? (x.add i) = some (.float .f32 (numF y)) := by
      intro i y hi hy
      have hb' := hel i hi
      rw [hy, hc, Nat.mul_one, Option.bind_eq_some_iff] at hb'
      obtain ⟨cs', hcs, hy'⟩ := hb'
      obtain ⟨m, rfl, rfl, hw⟩ := trod_float he hy'
      exact ⟨hw, ChangeShapes.cell_of_cells?_one hcs⟩
    have hn : (elems.map numF).length = len := by simp [hlen]
    refine ⟨elems.map numF, ?_, some x, cap, by rw [hn], by rw [hn]; exact hl, hm, ?_⟩
    · intro z hz
      obtain ⟨y, hy, rfl⟩ := List.mem_map.1 hz
      obtain ⟨i, hi⟩ := List.getElem?_of_mem hy
      have hil : i < len := by rw [← hlen]; exact (List.getElem?_eq_some_iff.1 hi).1
      exact lt32 (each i y hil hi).1
    · by_cases h0 : elems.map numF = []
      · exact .inl h0
      · have hpos : 0 < len := by rw [← hn]; exact List.length_pos_iff.2 h0
        have cell : ∀ i, i < len → w.cell? (x.add i) = some (.float .f32 ((elems.map numF).getD i 0)) := fun i hi => by
          have hi' : i < elems.length := by omega
          have := (each i elems[i] hi (List.getElem?_eq_getElem hi')).2
          rw [this]; simp [List.getD, hi']
        obtain ⟨b, off, spot⟩ := x
        have c0 := cell 0 hpos
        obtain rfl : spot = none := by simpa [Addr.add] using World.cell?_spot c0
        refine .inr ⟨b, off, rfl, World.block_lt_of_cell? w _ c0, fun i hi => ?_⟩
        have := cell i (by omega)
        by_cases h0 : i = 0
        · subst h0; simpa [Addr.add] using this
        · simpa [Addr.add, h0] using this

theorem info_f32 : (Try.prog.info? 22).map (fun i => (i.zero, i.size, i.bytes)) = some (some (.float .f32 0), 1, 4) := by kernel_rfl

theorem toF_any (v : Value) (zs : List Nat) (w : World) (hv : FS w v zs) (hn : zs.length ≤ 1048576) :
    Calls Try.prog 70 #[v] w fun e w' => e = .returned (.slice (some ⟨w.heap.size, 0, none⟩) zs.length zs.length) ∧ w'.ownsRow w.heap.size 22 1 (.slice (some ⟨w.heap.size, 0, none⟩) zs.length zs.length) zs.length (zs.map (.float .f32)) ∧ Below w.heap.size w w' := by
  obtain ⟨hz, a, cap, rfl, h1, h2, h3⟩ := hv
  obtain ⟨i0, hi, hz0, hz1, hz2⟩ := info_parts info_f32
  unfold maxLen at h2
  go_enter Try.func70, Try.ntmps70
  go_wp2_with (at_make; refine wpList_make_full _ rfl _ _ 39 rfl w.heap.size 22 i0 (.float .f32 0) 1 Try.underlying39 hi hz0 hz1 _ _ _ _ zs.length rfl rfl rfl rfl ?b1 ?b2 ?b3 ?_)
  case b1 => rw [hz2]; omega
  case b2 => unfold maxLen; omega
  case b3 => exact Nat.le_refl _
  intro w1 hown hgrow
  have hbel : Below w.heap.size w w1 := (Below.refl _ _).grown hgrow (Nat.le_refl _) (fun _ h => nomatch h)
  rw [show (madeCells #[Value.float .f32 0] zs.length).toList = xsAt zs 0 by rw [xsAt_zero]; exact made_float _ _] at hown
  go_wp2
  go_loopw [4] (fun i wr => ∃ k : Nat, k ≤ zs.length ∧ i = .int .i64 k ∧ wr.ownsRow w.heap.size 22 1 (.slice (some ⟨w.heap.size, 0, none⟩) zs.length zs.length) zs.length (xsAt zs k) ∧ Below w.heap.size w wr) (fun i wr => zs.length - (intOf i).toNat)
  case atStart => exact ⟨0, Nat.zero_le _, rfl, hown, hbel⟩
  case round =>
    clear hown hbel hgrow
    obtain ⟨k, hk, rfl, hown, hbel⟩ := hrel
    by_cases hlt : k < zs.length
    · rcases h3 with h3 | ⟨b, off, rfl, hb, hc⟩
      · subst h3; simp at hlt
      · obtain ⟨z, ez⟩ : ∃ z, z = zs.getD k 0 := ⟨_, rfl⟩
        have hcell : wr.cell? ⟨b, off + k, none⟩ = some (.float .f32 z) := by rw [(bcell hbel).1 b _ hb, ez]; exact hc k hlt
        have hold : wr.cell? ⟨w.heap.size, k, none⟩ = some (.float .f32 0) := by rw [hown.cellAt k (by omega)]; exact xsAt_get zs k hlt
        have hfz : wr.frozen? ⟨w.heap.size, k, none⟩ = false := hown.frozenAt k
        have hst := hown.stored k (.float .f32 z)
        rw [ez, xsAt_set zs k hlt, ← ez] at hst
        have hb2 : Below w.heap.size w (wr.setCell ⟨w.heap.size, k, none⟩ (.float .f32 z)) := hbel.setCell (Nat.le_refl _) _
        clear ez
        have HS := Lib.hid (And.intro hst.1 hb2)
        clear hst hb2 hc hown
        go_wp2
        go_roundw
        case rel => exact ⟨k + 1, by omega, by go_num, HS.out.1, HS.out.2⟩
        case measure => simp [intOf]; omega
    · rw [xsAt_end zs k hlt] at hown
      clear h3
      go_wp2
      go_ret
      exact ⟨rfl, hown, hbel⟩


/-! Equal up to the bits of a NaN. -/
set_option maxHeartbeats 4000000 in
theorem eqF_any (va vb : Value) (za zb : List Nat) (w : World) (ha : FS w va za) (hb : FS w vb zb) (hab : za.map (cn .f32) = zb.map (cn .f32)) (hn : za.length ≤ 1048576) :
    Calls Try.prog 72 #[va, vb] w (RB true w) := by
  have hlen : za.length = zb.length := by simpa using congrArg List.length hab
  have ha0 := ha
  have hb0 := hb
  obtain ⟨_, a, cap, rfl, h1, h2, _⟩ := ha
  obtain ⟨_, b, cap2, rfl, g1, g2, _⟩ := hb
  unfold maxLen at h2 g2
  rw [← hlen] at g1 ⊢
  have hlen' := Lib.hid hlen
  have hab' := Lib.hid hab
  clear hlen hab
  go_enter Try.func72, Try.ntmps72
  go_wp2
  go_loopw [5] (fun i wr => ∃ (k n : Nat), k ≤ za.length ∧ i = .int .i64 k ∧ wr = w.drewN n) (fun i _ => za.length - (intOf i).toNat)
  case atStart => exact ⟨0, 0, Nat.zero_le _, rfl, rfl⟩
  case round =>
    obtain ⟨k, n, hk, rfl, rfl⟩ := hrel
    by_cases hlt : k < za.length
    · obtain ⟨b1, off1, c1, x, ev, _, _, _, ex, lx, hc1⟩ := ha0.cell hlt
      obtain ⟨b2, off2, c2, y, ev2, _, _, _, ey, ly, hc2⟩ := hb0.cell (by have := hlen'.out; omega : k < zb.length)
      simp only [Value.slice.injEq] at ev ev2
      obtain ⟨rfl, _, rfl⟩ := ev
      obtain ⟨rfl, _, rfl⟩ := ev2
      have exy : cn .f32 x = cn .f32 y := by
        have e1 : (za.map (cn .f32)).getD k 0 = (zb.map (cn .f32)).getD k 0 := by rw [hab'.out]
        rw [List.getD, List.getD, List.getElem?_map, List.getElem?_map] at e1
        rw [ex, ey, List.getD, List.getD]
        have k1 : k < zb.length := by have := hlen'.out; omega
        simpa [hlt, k1] using e1
      have hx : Fl .f32 x (cn .f32 x) := ⟨lx, rfl⟩
      have hy : Fl .f32 y (cn .f32 x) := ⟨ly, exy.symm⟩
      clear ex ey exy
      go_wp2
      go_region_with
        (first | (go_at_call 112; refine (sameFloat_any (hx.wide _) (hy.wide _) _).mono ?_; rintro e w' ⟨n3, rfl, rfl⟩))
      all_goals
        go_wp2_with fail
        go_roundw
        case rel => exact ⟨k + 1, _, by omega, by go_num, rfl⟩
        case measure => simp [intOf]; omega
    · go_wp2
      go_ret
      exact ⟨_, rfl, rfl⟩

end Go.Proofs.Ytmbohiebjgafoaa
