import Derived.Test.YtmbohiebjgafoaaTf
import Derived.ArgAppend
import Derived.Lib.SlBytesConst
set_option linter.unusedVariables false
set_option linter.unusedSimpArgs false
namespace Go.FX
open Go Go.RowKit
/-- The bytes of a stored picture: its head, and the first numbers. -/
def storeTo (W H : Nat) (cs : List Nat) : Nat → List UInt8
  | 0 => [69, 89, 69, 49] ++ [UInt8.ofNat W, UInt8.ofNat H]
  | k + 1 => storeTo W H cs k ++ bytesN (cs.getD k 0) 4
theorem storeTo_len (W H : Nat) (cs : List Nat) : ∀ k, (storeTo W H cs k).length = 6 + 4 * k
  | 0 => by simp [storeTo]
  | k + 1 => by rw [storeTo, List.length_append, storeTo_len W H cs k, bytesN_len]; omega
theorem ownsRow_mono {w : World} {base base' : Nat} {e : TypeId} {size : Nat} {v : Value} {n : Nat} {xs : List Value} (h : w.ownsRow base e size v n xs) (hb : base' ≤ base) : w.ownsRow base' e size v n xs := by
  obtain ⟨h1, h2⟩ := h
  rcases h2 with h2 | ⟨g, cap, cur, a, b, c⟩
  · exact ⟨h1, .inl h2⟩
  · exact ⟨h1, .inr ⟨g, cap, cur, a, Nat.le_trans hb b, c⟩⟩
theorem and255 (n : Int) : bits .and .i64 n 255 = n % 256 := by
  have h255 : (BitVec.ofInt 64 255).toNat = 2 ^ 8 - 1 := by decide
  have key : (BitVec.ofInt 64 n &&& BitVec.ofInt 64 255).toNat = (n % ((2 ^ 64 : Nat) : Int)).toNat % 2 ^ 8 := by
    rw [BitVec.toNat_and, BitVec.toNat_ofInt, h255, Nat.and_two_pow_sub_one_eq_mod]
  show IntKind.i64.wrap ((BitVec.ofInt 64 n &&& BitVec.ofInt 64 255).toNat : Nat) = n % 256
  rw [key, IntKind.wrap_i64]
  omega
theorem bytes4 (x : Nat) : cellB8 (bytesN x 4) = [.int .u8 ((x : Int) % 256), .int .u8 ((x : Int) / 256 % 256), .int .u8 ((x : Int) / 65536 % 256), .int .u8 ((x : Int) / 16777216 % 256)] := by
  have e : bytesN x 4 = [byteAt x 0, byteAt x 1, byteAt x 2, byteAt x 3] := rfl
  rw [e]
  simp only [cellB8, List.map_cons, List.map_nil, byteAt_nat]
  congr 3 <;> omega
theorem ofNat_nat {x : Nat} (h : x < 256) : ((UInt8.ofNat x).toNat : Int) = (x : Int) := by
  rw [UInt8.toNat_ofNat', Nat.mod_eq_of_lt (by simpa using h)]
end Go.FX
namespace Go.Proofs.Ytmbohiebjgafoaa
open Go.FX Go.RowKit Go.WideShapes Go.ChangeShapes
attribute [local go_sem ↓] Go.wp_at_zero Go.wp_at_succ

theorem bits8_any {z c : Nat} (h : Fl .f32 z c) (w : World) : Calls Try.prog 97 #[.float .f32 z] w (fun e w' => e = .returned (.int .i64 (c : Int)) ∧ w = w') := by
  have hz : z < 4294967296 := h.lt
  have e := h.eq
  by_cases h1 : isN .f32 z = true
  all_goals
    try simp only [Bool.not_eq_true] at h1
    have ec : Hid (cn .f32 z = c) := Lib.hid e
    clear e h
    go_enter Try.func97, Try.ntmps97
    go_wp2
    go_ret
    exact ⟨by rw [← ec.out]; first | (rw [cn_of_nan h1]; rfl) | (rw [cn_of_not h1]; rfl), rfl⟩
theorem sbits8_any {z c : Nat} (h : Fl .f32 z c) (w : World) : Calls Try.prog 125 #[.float .f32 z] w (fun e w' => e = .returned (.int .i64 (c : Int)) ∧ w = w') := by
  have hz : z < 4294967296 := h.lt
  have e := h.eq
  by_cases h1 : isN .f32 z = true
  all_goals
    try simp only [Bool.not_eq_true] at h1
    have ec : Hid (cn .f32 z = c) := Lib.hid e
    clear e h
    go_enter Try.func125, Try.ntmps125
    go_wp2
    go_ret
    exact ⟨by rw [← ec.out]; first | (rw [cn_of_nan h1]; rfl) | (rw [cn_of_not h1]; rfl), rfl⟩

/-- A text, and whether it is there. -/
def RStr (s : ByteArray) (ok : Bool) (w : World) (e : Ending) (w' : World) : Prop := e = .returned (.tuple #[.string s, .bool ok]) ∧ Below w.heap.size w w'

set_option maxRecDepth 100000 in
set_option maxHeartbeats 4000000 in
theorem implStore_any (W H : Nat) (a : Option Addr) (n c : Nat) (cs : List Nat) (w : World) (hv : FC w (.slice a n c) cs) (b1 : 1 ≤ W) (b2 : W ≤ 24) (b3 : 1 ≤ H) (b4 : H ≤ 24) (b5 : H * W ≤ 256) (hl : cs.length = H * W) :
    Calls Try.prog 50 #[.agg #[.int .i64 W, .int .i64 H, .slice a n c]] w (RStr ⟨(storeTo W H cs cs.length).toArray⟩ true w) := by
  obtain ⟨i0, hi, hz0, hz1, hz2⟩ := info_parts info_u8
  obtain ⟨rfl, hnc, hcm⟩ := hv.sized
  have hval := Lib.hid (validB_mk b1 b2 b3 b4 b5 hl)
  have h1 := fun w1 => validPic_any W H (.slice a cs.length c) cs.length w1 ⟨a, c, rfl, hnc, hcm⟩
  rw [hval.out] at h1
  have h256 : cs.length ≤ 256 := by omega
  have hv' := Lib.hid hv
  clear hl hv b5
  go_enter Try.func50, Try.ntmps50
  go_wp2_with fail
  refine (h1 _).mono ?_
  rintro e w1 ⟨rfl, hb1⟩
  have hP := (Pv.new w (W : Int) (H : Int) (.slice a cs.length c) 46).below hb1
  have hb01 : Below (w.heap.size + 1) (w.alloc (.cells #[.int .i64 W, .int .i64 H, .slice a cs.length c] 46)) w1 := by simpa using hb1
  have hbw : Below w.heap.size w w1 := (below1 _ _).trans (hb1.mono (by simp))
  have hs1 : w.heap.size + 1 ≤ w1.heap.size := by simpa using hb1.size
  have hP' := Lib.hid hP
  have hbw' := Lib.hid hbw
  obtain ⟨lP, p0, p1, p2⟩ := hP
  have e1 : (W : Int) % 256 = W := by omega
  have e2 : (H : Int) % 256 = H := by omega
  clear hb1 hb01 hbw h1
  have hcv := Go.Lib.run_convert_bytes_const (P := Try.prog) w1 106 5 #[.int .u8 69, .int .u8 89, .int .u8 69, .int .u8 49] 4 4 Try.underlying106 Try.underlying5
  obtain ⟨w2, hw2⟩ : ∃ u, u = w1.alloc (.cells #[.int .u8 69, .int .u8 89, .int .u8 69, .int .u8 49] 5 ((#[.int .u8 69, .int .u8 89, .int .u8 69, .int .u8 49] : Array Value).size, (#[.int .u8 69, .int .u8 89, .int .u8 69, .int .u8 49] : Array Value).size + 1)) := ⟨_, rfl⟩
  rw [← hw2] at hcv
  have hP2 : Pv w2 w.heap.size W H (.slice a cs.length c) := by rw [hw2]; exact hP'.out.alloc _
  have hb2 : Below w.heap.size w w2 := by rw [hw2]; exact hbw'.out.alloc (by omega) _
  have hs2 : w2.heap.size = w1.heap.size + 1 := by rw [hw2]; simp
  have hold : ∀ j u, [Value.int .u8 69, .int .u8 89, .int .u8 69, .int .u8 49][j]? = some u → w2.cell? ⟨w1.heap.size, j, none⟩ = some u := fun j u hj => by
    rw [hw2, World.cell?_alloc_mark]; simpa using hj
  have hP2' := Lib.hid hP2
  have hb2' := Lib.hid hb2
  have hold' := Lib.hid hold
  obtain ⟨lP2, p0, p1, p2⟩ := hP2
  clear hw2 hb2 hold hP' hbw'
  go_wp2_with (at_builtin; go_loud (refine wpList_append_grows _ rfl _ _ 106 rfl 5 i0 (.int .u8 0) 1 1 Try.underlying106 hi hz0 hz1 hz2 rfl (by decide) (some ⟨w1.heap.size, 0, none⟩) 4 4 [.int .u8 69, .int .u8 89, .int .u8 69, .int .u8 49] rfl (fun h => by cases h) rfl ?c0 ⟨w1.heap.size + 1, 0, none⟩ 2 2 [.int .u8 W, .int .u8 H] rfl rfl ?c1 ?c2 (by omega) ?c3 ?c4 ?_))
  case c0 =>
    intro b hb j u hj
    obtain rfl := Option.some.inj hb
    rw [show (⟨w1.heap.size, 0, none⟩ : Addr).add j = ⟨w1.heap.size, j, none⟩ by unfold Addr.add; split <;> simp_all, World.cell?_alloc_lt _ _ _ (by show w1.heap.size < _; omega)]
    exact hold'.out j u hj
  case c1 =>
    intro j u hj
    rw [show (⟨w1.heap.size + 1, 0, none⟩ : Addr).add j = ⟨w2.heap.size, j, none⟩ by rw [hs2]; unfold Addr.add; split <;> simp_all, World.cell?_alloc_mark]
    simpa using hj
  case c2 => intro u hu; simp at hu; rcases hu with rfl | rfl <;> rfl
  case c3 => unfold maxLen; omega
  case c4 => omega
  intro v' w4 hown0 hgrow
  have hown' : w4.ownsRow (w.heap.size + 1) 5 1 v' (4 + 2) ([.int .u8 69, .int .u8 89, .int .u8 69, .int .u8 49] ++ [.int .u8 W, .int .u8 H]) := ownsRow_mono hown0 (by simp; omega)
  have hbl4 : Below w.heap.size w w4 := ((hb2'.out.alloc (by omega) (.cells #[.int .u8 W, .int .u8 H] 5)).grown hgrow (by simp; omega) (fun k hk => by cases hk))
  have hP4 := (hP2'.out.alloc (.cells #[.int .u8 W, .int .u8 H] 5)).kept hgrow (by simp)
  have ho4 : OB w4 (w.heap.size + 1) 5 v' (storeTo W H cs 0) := by
    unfold OB storeTo
    have e : cellB8 ([69, 89, 69, 49] ++ [UInt8.ofNat W, UInt8.ofNat H]) = [.int .u8 69, .int .u8 89, .int .u8 69, .int .u8 49] ++ [.int .u8 W, .int .u8 H] := by
      unfold cellB8
      simp only [List.map_append, List.map_cons, List.map_nil]
      rw [ofNat_nat (x := W) (by omega), ofNat_nat (x := H) (by omega)]
      rfl
    rw [e]
    exact hown'
  have HS := Lib.hid (And.intro ho4 hbl4)
  have hs4 := hbl4.size
  obtain ⟨lP4, p0, p1, p2⟩ := hP4
  clear hbl4 ho4 hown' hown0 hgrow e1 e2 hP2' hb2' hold' hcv lP2
  go_wp2_with fail
  have hs5 : w.heap.size + 1 ≤ w4.heap.size := by omega
  go_loopw [4, 23] (fun v i wr => ∃ k : Nat, k ≤ cs.length ∧ i = .int .i64 k ∧ Hid (OB wr (w.heap.size + 1) 5 v (storeTo W H cs k) ∧ Below w.heap.size w wr ∧ w.heap.size + 1 ≤ wr.heap.size)) (fun _ i _ => cs.length - (intOf i).toNat)
  case atStart => exact ⟨0, Nat.zero_le _, rfl, Lib.hid ⟨HS.out.1, HS.out.2, hs5⟩⟩
  case round =>
    clear HS p0 p1 p2 hs4 hs5 lP4
    obtain ⟨k, hk, rfl, hR⟩ := hrel
    by_cases hlt : k < cs.length
    · obtain ⟨bb, off, cc, z, ev, _, _, hbl, hzf, hzc⟩ := (hv'.out.below hR.out.2.1).cell hlt
      obtain ⟨rfl, _, rfl⟩ := Value.slice.inj ev
      have hB := fun w1 => bits8_any hzf w1
      have hcl : cs.getD k 0 < 4294967296 := by
        have h1 := hzf.lt
        have h2 := hzf.eq
        have h3 : cn .f32 z < width .f32 := cn_lt h1
        rw [h2] at h3; exact h3
      obtain ⟨x, hx⟩ : ∃ x, x = cs.getD k 0 := ⟨_, rfl⟩
      rw [← hx] at hB hcl
      have hx' := Lib.hid hx
      have hA := appBytes_any u4 (storeTo W H cs k) x 4 (w.heap.size + 1) wr hR.out.1 hR.out.2.2 hcl (by omega) (by rw [storeTo_len]; omega)
      clear hzf hx
      go_wp2_with fail
      refine (hB _).mono ?_
      rintro e w2 ⟨rfl, rfl⟩
      go_wp2_with fail
      refine hA.mono ?_
      rintro e w3 ⟨v3, rfl, ho3, hb3⟩
      have hHS : Hid (OB w3 (w.heap.size + 1) 5 v3 (storeTo W H cs (k + 1)) ∧ Below w.heap.size w w3 ∧ w.heap.size + 1 ≤ w3.heap.size) := Lib.hid ⟨by rw [storeTo, ← hx'.out]; exact ho3, hR.out.2.1.trans (hb3.mono (by omega)), Nat.le_trans hR.out.2.2 hb3.size⟩
      clear ho3 hb3 hA
      go_wp2_with fail
      go_roundw
      case rel => exact ⟨k + 1, by omega, by go_num, hHS⟩
      case measure => simp [intOf]; omega
    · obtain rfl : k = cs.length := by omega
      have htx := hR.out.1.text (P := Try.prog) Try.underlying106 Try.underlying5 Try.underlying9
      go_wp2_with fail
      refine bodyPost_ret (v := ?v) ?hr rfl ?post
      case hr => (simp [results, Try.results50, go_sem]; try rfl)
      case post => exact ⟨rfl, hR.out.2.1⟩

theorem step_append_full {P : Program} {w : World} {ops : Array Oper} {o : Oper} {a : Act} {K : Act → World → Prop} {Q : Exit → Act → World → Prop} {E : Prop} (hgd : o.guard = none) (s x : Operand) (t : TypeId)
    (ho : o.op = .call { callee := .builtin .append, args := #[s, x], argTypes := #[t, t] })
    (e : TypeId) (i : TypeInfo) (z : Value) (size bytes : Nat) (ht : P.underlying t = some (.slice e)) (hi : P.info? e = some i) (hz : i.zero = some z)
    (hsize : i.size = size) (hby : i.bytes = bytes) (hzs : z.cells.size = size) (hsz : 0 < size)
    (b : Addr) (n cap : Nat) (olds : List Value) (hs : a.eval s = .slice (some b) n cap) (hlo : olds.length = n * size) (holds : ∀ j u, olds[j]? = some u → w.cell? (b.add j) = some u)
    (ad : Addr) (m c : Nat) (news : List Value) (hx : a.eval x = .slice (some ad) m c) (hl : news.length = m * size) (hnews : ∀ j u, news[j]? = some u → w.cell? (ad.add j) = some u)
    (hg : cap < n + m) (h63 : n + m ≤ maxLen) (hbytes : (n + m) * bytes ≤ 140737488355328)
    (h : ∀ v' w', w'.ownsRow w.heap.size e size v' (n + m) (olds ++ news) → w.grownBy w' none → K (a.put o.dst v') w') :
    if Region.wanted o (yielded ops a.tmps) = true then Oper.wp P o a w K Q else E := by
  have hw : Region.wanted o (yielded ops a.tmps) = true := by simp [Region.wanted, hgd]
  rw [if_pos hw]
  obtain ⟨v', w', hrun, r1, r2⟩ := run_append_arg_grows (P := P) w t o.type e i z size bytes ht hi hz hsize hby hzs hsz b n cap olds hlo holds ad m c news hl hnews hg h63 hbytes
  unfold Oper.wp
  simp [execOp, ho, resolve, invoke, builtin, hs, hx, hrun, Result.andThen]
  exact h v' w' r1 r2

set_option maxRecDepth 100000 in
set_option maxHeartbeats 4000000 in
theorem specStore_any (W H : Nat) (a : Option Addr) (n c bp : Nat) (cs : List Nat) (w : World) (hp : Pv w bp W H (.slice a n c)) (hv : FC w (.slice a n c) cs) (b1 : 1 ≤ W) (b2 : W ≤ 24) (b3 : 1 ≤ H) (b4 : H ≤ 24) (h256 : cs.length ≤ 256) :
    Calls Try.prog 95 #[.pointer (some ⟨bp, 0, none⟩)] w fun e w' => e = .returned (.string ⟨(storeTo W H cs cs.length).toArray⟩) ∧ Below w.heap.size w w' := by
  obtain ⟨i0, hi, hz0, hz1, hz2⟩ := info_parts info_u8
  obtain ⟨rfl, hnc, hcm⟩ := hv.sized
  have hv' := Lib.hid hv
  clear hv
  have e1 : (W : Int) % 256 = W := by omega
  have e2 : (H : Int) % 256 = H := by omega
  have e3 : IntKind.u8.wrap (W : Int) = W := IntWalk.u8_in _ (by omega)
  have e4 : IntKind.u8.wrap (H : Int) = H := IntWalk.u8_in _ (by omega)
  have hcv := Go.Lib.run_convert_bytes_const (P := Try.prog) w 106 5 #[.int .u8 69, .int .u8 89, .int .u8 69, .int .u8 49] 4 4 Try.underlying106 Try.underlying5
  obtain ⟨w2, hw2⟩ : ∃ u, u = w.alloc (.cells #[.int .u8 69, .int .u8 89, .int .u8 69, .int .u8 49] 5 ((#[.int .u8 69, .int .u8 89, .int .u8 69, .int .u8 49] : Array Value).size, (#[.int .u8 69, .int .u8 89, .int .u8 69, .int .u8 49] : Array Value).size + 1)) := ⟨_, rfl⟩
  rw [← hw2] at hcv
  have hP2 : Pv w2 bp W H (.slice a cs.length c) := by rw [hw2]; exact hp.alloc _
  have hb2 : Below w.heap.size w w2 := by rw [hw2]; exact below1 _ _
  have hs2 : w2.heap.size = w.heap.size + 1 := by rw [hw2]; simp
  have hold : ∀ j u, [Value.int .u8 69, .int .u8 89, .int .u8 69, .int .u8 49][j]? = some u → w2.cell? ⟨w.heap.size, j, none⟩ = some u := fun j u hj => by
    rw [hw2, World.cell?_alloc_mark]; simpa using hj
  have hP2' := Lib.hid hP2
  have hb2' := Lib.hid hb2
  have hold' := Lib.hid hold
  obtain ⟨lP2, p0, p1, p2⟩ := hP2
  have hPw := Lib.hid hp
  clear hw2 hb2 hold hp
  have holdA : ∀ (o : Obj) (m : Nat) j u, [Value.int .u8 69, .int .u8 89, .int .u8 69, .int .u8 49][j]? = some u → ((w2.alloc o).drewN m).cell? ((⟨w.heap.size, 0, none⟩ : Addr).add j) = some u := fun o m j u hj => by
    rw [show (⟨w.heap.size, 0, none⟩ : Addr).add j = ⟨w.heap.size, j, none⟩ by unfold Addr.add; split <;> simp_all, World.cell?_drewN, World.cell?_alloc_lt _ _ _ (by show w.heap.size < _; omega)]
    exact hold'.out j u hj
  have holdA := Lib.hid holdA
  have hnewA : ∀ (m : Nat) j u, [Value.int .u8 W, .int .u8 H][j]? = some u → ((w2.alloc (.cells #[.int .u8 W, .int .u8 H] 5)).drewN m).cell? ((⟨w.heap.size + 1, 0, none⟩ : Addr).add j) = some u := fun m j u hj => by
    rw [show (⟨w.heap.size + 1, 0, none⟩ : Addr).add j = ⟨w2.heap.size, j, none⟩ by rw [hs2]; unfold Addr.add; split <;> simp_all, World.cell?_drewN, World.cell?_alloc_mark]
    simpa using hj
  have hnewA := Lib.hid hnewA
  go_enter Try.func95, Try.ntmps95
  go_upto_region 2 with fail
  go_region_law ((refine step_append_full (by rfl) _ _ _ (by rfl) 5 i0 (.int .u8 0) 1 1 Try.underlying106 hi hz0 hz1 hz2 rfl (by decide) ⟨w.heap.size, 0, none⟩ 4 4 [.int .u8 69, .int .u8 89, .int .u8 69, .int .u8 49] (by rfl) (by rfl) (holdA.out _ _) ⟨w.heap.size + 1, 0, none⟩ 2 2 [.int .u8 W, .int .u8 H] (by rfl) (by rfl) (hnewA.out _) (by omega) (by unfold maxLen; omega) (by omega) ?_; intro v' w4 hown0 hgrow))
  all_goals
    have hown' : w4.ownsRow (w.heap.size + 1) 5 1 v' (4 + 2) ([.int .u8 69, .int .u8 89, .int .u8 69, .int .u8 49] ++ [.int .u8 W, .int .u8 H]) := ownsRow_mono hown0 (by simp; omega)
    have hbl4 : Below w.heap.size w w4 := ((below_drewN (hb2'.out.alloc (by omega) (.cells #[.int .u8 W, .int .u8 H] 5)) 1).grown hgrow (by simp; omega) (fun k hk => by cases hk))
    have ho4 : OB w4 (w.heap.size + 1) 5 v' (storeTo W H cs 0) := by
      unfold OB storeTo
      have e : cellB8 ([69, 89, 69, 49] ++ [UInt8.ofNat W, UInt8.ofNat H]) = [.int .u8 69, .int .u8 89, .int .u8 69, .int .u8 49] ++ [.int .u8 W, .int .u8 H] := by
        unfold cellB8
        simp only [List.map_append, List.map_cons, List.map_nil]
        rw [ofNat_nat (x := W) (by omega), ofNat_nat (x := H) (by omega)]
        rfl
      rw [e]
      exact hown'
    have hs5 : w.heap.size + 1 ≤ w4.heap.size := by have := hgrow.size; simp at this; omega
    have HS := Lib.hid (And.intro ho4 (And.intro hbl4 hs5))
    clear hbl4 ho4 hown' hown0 hgrow e1 e2 e3 e4 hP2' hb2' hold' holdA hnewA hcv lP2 p0 p1 p2 hs2 hs5
    go_wp2_with fail
    go_loopw [3, 4] (fun v i wr => ∃ k : Nat, k ≤ cs.length ∧ i = .int .i64 k ∧ Hid (OB wr (w.heap.size + 1) 5 v (storeTo W H cs k) ∧ Below w.heap.size w wr ∧ w.heap.size + 1 ≤ wr.heap.size)) (fun _ i _ => cs.length - (intOf i).toNat)
    case atStart => exact ⟨0, Nat.zero_le _, rfl, HS⟩
    case round =>
      clear HS
      obtain ⟨k, hk, rfl, hR⟩ := hrel
      obtain ⟨_, p0, p1, p2⟩ := hPw.out.below hR.out.2.1
      by_cases hlt : k < cs.length
      · obtain ⟨bb, off, cc, z, ev, _, _, hbl, hzf, hzc⟩ := (hv'.out.below hR.out.2.1).cell hlt
        obtain ⟨rfl, _, rfl⟩ := Value.slice.inj ev
        have hB := fun w1 => sbits8_any hzf w1
        have hcl : cs.getD k 0 < 4294967296 := by
          have h1 := hzf.lt
          have h2 := hzf.eq
          have h3 : cn .f32 z < width .f32 := cn_lt h1
          rw [h2] at h3; exact h3
        obtain ⟨x, hx⟩ : ∃ x, x = cs.getD k 0 := ⟨_, rfl⟩
        rw [← hx] at hB hcl
        have hx' := Lib.hid hx
        clear hzf hx
        go_wp2_with fail
        refine (hB _).mono ?_
        rintro e w2 ⟨rfl, rfl⟩
        obtain ⟨av, cv, ev4, _, _⟩ := hR.out.1.form
        rw [storeTo_len] at ev4
        subst ev4
        have hown := hR.out.1
        unfold OB at hown
        rw [storeTo_len] at hown
        have hsr := hR.out.2.2
        have hand := and255
        obtain ⟨g0, hg0⟩ : ∃ g, g = (x : Int) % 256 := ⟨_, rfl⟩
        obtain ⟨g1, hg1⟩ : ∃ g, g = (x : Int) / 256 % 256 := ⟨_, rfl⟩
        obtain ⟨g2, hg2⟩ : ∃ g, g = (x : Int) / 65536 % 256 := ⟨_, rfl⟩
        obtain ⟨g3, hg3⟩ : ∃ g, g = (x : Int) / 16777216 % 256 := ⟨_, rfl⟩
        have hb4 := bytes4 x
        rw [← hg0, ← hg1, ← hg2, ← hg3] at hb4
        have hb4' := Lib.hid hb4
        have k0 := hg0.symm
        have k1 := hg1.symm
        have k2 := hg2.symm
        have k3 := hg3.symm
        have m0 : g0 % 256 = g0 := by omega
        have m1 : g1 % 256 = g1 := by omega
        have m2 : g2 % 256 = g2 := by omega
        have m3 : g3 % 256 = g3 := by omega
        have hol := hown.alloc (.cells #[.int .u8 g0, .int .u8 g1, .int .u8 g2, .int .u8 g3] 5)
        clear hg0 hg1 hg2 hg3 hb4 hown
        go_wp2_with (at_builtin; go_loud (refine wpList_append_own _ rfl _ _ 106 rfl (w.heap.size + 1) 5 i0 (.int .u8 0) 1 1 Try.underlying106 hi hz0 hz1 hz2 rfl (by decide) _ _ _ rfl hol ⟨wr.heap.size, 0, none⟩ 4 4 [.int .u8 g0, .int .u8 g1, .int .u8 g2, .int .u8 g3] rfl rfl ?c1 ?c2 ?c3 ?c4 ?c5 ?_))
        case c1 =>
          intro j u hj
          rw [show (⟨wr.heap.size, 0, none⟩ : Addr).add j = ⟨wr.heap.size, j, none⟩ by unfold Addr.add; split <;> simp_all, World.cell?_alloc_mark]
          simpa using hj
        case c2 => intro u hu; simp at hu; rcases hu with rfl | rfl | rfl | rfl <;> rfl
        case c3 => unfold maxLen; omega
        case c4 => omega
        case c5 => simp; omega
        intro v5 w5 hown5 hgrow5 _
        have hHS : Hid (OB w5 (w.heap.size + 1) 5 v5 (storeTo W H cs (k + 1)) ∧ Below w.heap.size w w5 ∧ w.heap.size + 1 ≤ w5.heap.size) := by
          refine Lib.hid ⟨?_, (hR.out.2.1.alloc (by omega) (.cells #[.int .u8 g0, .int .u8 g1, .int .u8 g2, .int .u8 g3] 5)).grown hgrow5 (by simp; omega) (fun q hq => by have := (hR.out.1.lt q hq).1; omega), by have := hgrow5.size; simp at this; omega⟩
          unfold OB
          rw [storeTo_len, storeTo, ← hx'.out]
          unfold cellB8 at hb4' hown5 ⊢
          rw [List.map_append, hb4'.out]
          exact hown5
        clear hown5 hgrow5 hol hR hand k0 k1 k2 k3 m0 m1 m2 m3 hb4'
        go_wp2_with fail
        go_roundw
        case rel => exact ⟨k + 1, by omega, by go_num, hHS⟩
        case measure => simp [intOf]; omega
      · obtain rfl : k = cs.length := by omega
        have htx := hR.out.1.text (P := Try.prog) Try.underlying106 Try.underlying5 Try.underlying9
        go_wp2_with fail
        go_ret
        exact ⟨rfl, hR.out.2.1⟩
end Go.Proofs.Ytmbohiebjgafoaa
