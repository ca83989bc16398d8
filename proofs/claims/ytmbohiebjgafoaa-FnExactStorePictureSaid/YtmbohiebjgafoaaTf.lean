import Derived.Test.YtmbohiebjgafoaaPl
import Derived.Test.YtmbohiebjgafoaaPi
import Derived.Test.YtmbohiebjgafoaaPq
import Derived.Test.YtmbohiebjgafoaaVg
import Derived.IntWalk
import Derived.OwnWalk
import Derived.Deep.AppendLies
import Derived.Deep.DrawnRows
import Derived.Deep.RegionLaw
import Derived.Deep.DeepCutAuto
import Derived.Laws.IdiomStrings
set_option linter.unusedVariables false
set_option linter.unusedSimpArgs false
namespace Go.FX
open Go Go.RowKit
/-! Rows of bytes of the call's own. -/
def cellB8 (l : List UInt8) : List Value := l.map fun b => Value.int .u8 (b.toNat : Int)
def OB (w : World) (base : Nat) (e : TypeId) (v : Value) (l : List UInt8) : Prop := w.ownsRow base e 1 v l.length (cellB8 l)
theorem OB.nil (w : World) (base : Nat) (e : TypeId) : OB w base e (.slice none 0 0) [] := World.ownsRow_nil _ _ _ _
theorem OB.lt {w : World} {base : Nat} {e : TypeId} {v : Value} {l : List UInt8} (h : OB w base e v l) : ∀ k, v.ownBlock = some k → base ≤ k ∧ k < w.heap.size := World.ownsRow.lt h
theorem OB.kept {w w' : World} {base : Nat} {e : TypeId} {v : Value} {l : List UInt8} {row : Option Nat} (h : OB w base e v l) (hg : w.grownBy w' row) (hne : v.ownBlock = none ∨ v.ownBlock ≠ row) : OB w' base e v l := World.ownsRow.kept h hg hne
theorem OB.below {w w' : World} {base : Nat} {e : TypeId} {v : Value} {l : List UInt8} (h : OB w base e v l) (hb : Below w.heap.size w w') : OB w' base e v l :=
  h.kept (grown_of_below hb none) (by cases hv : v.ownBlock <;> simp)
theorem OB.form {w : World} {base : Nat} {e : TypeId} {v : Value} {l : List UInt8} (h : OB w base e v l) : ∃ a c, v = .slice a l.length c ∧ l.length ≤ c ∧ c ≤ maxLen := by
  rcases h.2 with ⟨hv, h0⟩ | ⟨g, cap, cur, hv, _, hg, hn, hm, _⟩
  · exact ⟨none, 0, by rw [hv, h0], by omega, by simp [maxLen]⟩
  · exact ⟨some ⟨g, 0, none⟩, cap, hv, hn, hm⟩
theorem OB.cell {w : World} {base : Nat} {e : TypeId} {g n c : Nat} {l : List UInt8} (h : OB w base e (.slice (some ⟨g, 0, none⟩) n c) l) (j : Nat) (hj : j < l.length) : w.cell? ⟨g, j, none⟩ = some (.int .u8 (l[j].toNat : Int)) := by
  obtain ⟨a, c', ev, _, _⟩ := h.form
  obtain ⟨_, rfl, _⟩ := Value.slice.inj ev
  have := World.ownsRow.cellAt h j (by simpa using hj)
  rw [this]; simp [cellB8, hj]
/-- The text of a row of bytes. -/
theorem OB.text {P : Program} {w : World} {base : Nat} {e src dst : TypeId} {v : Value} {l : List UInt8} (h : OB w base e v l) (hs : P.underlying src = some (.slice e)) (he : P.underlying e = some (.int .u8)) (hd : P.underlying dst = some .string) :
    (convert src dst v).run P w = .ok (.string ⟨l.toArray⟩) w := by
  have h' := h
  rcases h.2 with ⟨hv, h0⟩ | ⟨g, cap, cur, hv, _, hg, hn, hm, _⟩
  · obtain rfl := List.length_eq_zero_iff.1 h0
    rw [hv, run_convert_bytes_string w src dst e none 0 0 hs he hd]; rfl
  · subst hv
    exact run_convert_bytes_back w src dst e ⟨g, 0, none⟩ cap l hs he hd (fun j hj => by
      rw [show (⟨g, 0, none⟩ : Addr).add j = ⟨g, j, none⟩ by unfold Addr.add; split <;> simp_all]
      exact h'.cell j hj)
/-- The bytes of a number, the last one first. -/
def byteAt (n i : Nat) : UInt8 := UInt8.ofNat (n / 256 ^ i % 256)
def bytesN (n k : Nat) : List UInt8 := (List.range k).map (byteAt n)
theorem bytesN_len (n k : Nat) : (bytesN n k).length = k := by simp [bytesN]
theorem bytesN_succ (n k : Nat) : bytesN n (k + 1) = bytesN n k ++ [byteAt n k] := by simp [bytesN, List.range_succ]
theorem byteAt_nat (n i : Nat) : ((byteAt n i).toNat : Int) = ((n / 256 ^ i : Nat) : Int) % 256 := by
  unfold byteAt
  rw [UInt8.toNat_ofNat']
  omega
theorem OB.push {w' : World} {base : Nat} {e : TypeId} {v' : Value} {l : List UInt8} {b : UInt8} {x : Int} (hx : x = (b.toNat : Int))
    (h : w'.ownsRow base e 1 v' (l.length + 1) (cellB8 l ++ [.int .u8 x])) : OB w' base e v' (l ++ [b]) := by
  subst hx
  unfold OB cellB8
  rw [List.length_append, List.map_append]
  exact h
end Go.FX
namespace Go.Proofs.Ytmbohiebjgafoaa
open Go.FX Go.RowKit Go.WideShapes Go.ChangeShapes
theorem info_u8 : (Try.prog.info? 5).map (fun i => (i.zero, i.size, i.bytes)) = some (some (.int .u8 0), 1, 1) := by kernel_rfl
set_option maxHeartbeats 1000000 in
theorem appBytes_any (v : Value) (l : List UInt8) (n count base : Nat) (w : World) (hv : OB w base 5 v l) (hb : base ≤ w.heap.size) (hn : n < 4294967296) (hc : count ≤ 4) (hl : l.length ≤ 1048576) :
    Calls Try.prog 96 #[v, .int .i64 n, .int .i64 count] w fun e w' => ∃ v', e = .returned v' ∧ OB w' base 5 v' (l ++ bytesN n count) ∧ Below base w w' := by
  obtain ⟨i0, hi, hz0, hz1, hz2⟩ := info_parts info_u8
  have hv' := Lib.hid hv
  clear hv
  go_enter Try.func96, Try.ntmps96
  go_wp2_with fail
  go_loopw [0, 1, 8] (fun s m i wr => ∃ j : Nat, j ≤ count ∧ i = .int .i64 j ∧ m = .int .i64 ((n / 256 ^ j : Nat) : Int) ∧ Hid (OB wr base 5 s (l ++ bytesN n j) ∧ Below base w wr)) (fun _ _ i _ => count - (intOf i).toNat)
  case atStart => exact ⟨0, Nat.zero_le _, rfl, by simp, Lib.hid ⟨by simpa [bytesN] using hv'.out, Below.refl _ _⟩⟩
  case round =>
    clear hv'
    obtain ⟨j, hj, rfl, rfl, hR⟩ := hrel
    obtain ⟨q, hq⟩ : ∃ q, q = n / 256 ^ j := ⟨_, rfl⟩
    have hqn : q ≤ n := by rw [hq]; exact Nat.div_le_self _ _
    rw [← hq]
    have hq' := Lib.hid hq
    clear hq
    by_cases hlt : j < count
    · have hlen : (l ++ bytesN n j).length = l.length + j := by rw [List.length_append, bytesN_len]
      obtain ⟨L, hL⟩ : ∃ L, L = l ++ bytesN n j := ⟨_, rfl⟩
      rw [← hL] at hR hlen
      obtain ⟨a, c, ev, _, _⟩ := hR.out.1.form
      subst ev
      have hsz := hR.out.2.size
      have hown := hR.out.1
      have hL' := Lib.hid hL
      have hlen' := Lib.hid hlen
      unfold OB at hown
      clear hL hlen
      go_wp2_with (at_builtin; refine wpList_append_own _ rfl _ _ 106 rfl base 5 i0 (.int .u8 0) 1 1 Try.underlying106 hi hz0 hz1 hz2 rfl (by decide) _ _ _ rfl (hown.alloc (.cells #[.int .u8 ((q : Int) % 256)] 5)) ⟨wr.heap.size, 0, none⟩ 1 1 [.int .u8 ((q : Int) % 256)] rfl rfl ?c1 ?c2 ?c3 ?c4 ?c5 ?_)
      case c1 =>
        intro j u hj
        match j, hj with
        | 0, hj => simp at hj; subst hj; simp [Addr.add]
      case c2 => intro u hu; simp at hu; subst hu; rfl
      case c3 => have := hlen'.out; unfold maxLen; omega
      case c4 => have := hlen'.out; omega
      case c5 => simp; omega
      intro v' w4 hown' hgrow _
      have hbl4 : Below base w w4 := ((hR.out.2.alloc (by omega) (.cells #[.int .u8 ((q : Int) % 256)] 5)).grown hgrow (by simp; omega) (fun k hk => by have := (hR.out.1.lt k hk).1; omega))
      have ho4 : OB w4 base 5 v' (l ++ bytesN n (j + 1)) := by
        rw [bytesN_succ, ← List.append_assoc, ← hL'.out]
        exact OB.push (by rw [byteAt_nat, ← hq'.out]) hown'
      have hqs : q / 256 = n / 256 ^ (j + 1) := by rw [hq'.out, Nat.div_div_eq_div_mul, Nat.pow_succ]
      have hqs' := Lib.hid hqs
      have HS := Lib.hid (And.intro ho4 hbl4)
      clear hbl4 ho4 hown' hgrow hown hqs
      go_wp2_with fail
      go_roundw
      case rel => exact ⟨j + 1, by omega, by go_num, by first | (rw [← hqs'.out]; go_num) | trace_state, HS⟩
      case measure => simp [intOf]; omega
    · obtain rfl : j = count := by omega
      go_wp2_with fail
      go_ret
      exact ⟨_, rfl, hR.out⟩
end Go.Proofs.Ytmbohiebjgafoaa
