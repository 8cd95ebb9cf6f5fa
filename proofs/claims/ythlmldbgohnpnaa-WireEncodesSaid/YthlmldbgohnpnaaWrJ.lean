/- wire: requests that came in. -/
import Derived.Test.YthlmldbgohnpnaaWrI
import Derived.Test.YthlmldbgohnpnaaSl
namespace Go.Proofs.Ythlmldbgohnpnaa
set_option linter.unusedVariables false
set_option linter.unusedSimpArgs false
open Go.RowKit Go.ChangeShapes Go.WideShapes Go.Deep
section
variable {H : Type} {enc : TypeId × Value → H} {P : Program} {w : World} {base : Nat} {spare : Nat → Bool} {held : Bool}
theorem leaf_str {t u : TypeId} {o fuel : Nat} {cs : List Value} {x : DataW H × List MemPlace} (hl : leafAt P 9 t o = some u) (hk : P.underlying u = some .string) (h : DataW.trod enc P w base spare held fuel t cs = some x) : ∃ b : Bs, cs[o]? = some (.string (bs b)) ∧ b.length ≤ maxLen := by
  obtain ⟨_, ps, y, hy, _, hv⟩ := leaf_of 9 t o u fuel cs x hl h
  obtain ⟨s, rfl, _, hs⟩ := DataW.trod_string hk hy
  refine ⟨s.data.toList, ?_, by rw [← bs_size, bs_self]; exact hs⟩
  rw [bs_self]
  simpa using hv 0 _ rfl
end
theorem eq_reqZ (a : Rq) (w : World) : (Op.equalIn 10000 TQ (.agg a.cs) (.agg #[.int .i64 0, .int .i64 0, .int .i64 0, .int .u64 0, .int .i64 0, .int .i64 0, .int .i64 0, .int .i64 0, .int .i64 0, .string ⟨#[]⟩, .int .i64 0, .int .i64 0, .int .i64 0, .int .i64 0, .int .i64 0, .int .i64 0, .int .i64 0, .int .u64 0, .int .i64 0, .int .u64 0, .int .i64 0, .int .i64 0, .int .i64 0, .int .i64 0])).run Try.prog w = .ok (eqQ a Rq.z) w := eq_req a Rq.z w
theorem eqQ_self (a : Rq) : eqQ a a = true := (eqQ_iff a a).2 rfl
theorem toU_ok (n : Nat) (h : n ≤ 18446744073709551615) (h2 : n ≤ 4294967296) : i64ok (n : Int) := by unfold i64ok; omega
theorem gN_small (L : Bs) (a k : Nat) (h : k ≤ 4) : i64ok (gN L a k : Int) := by
  have h1 := getB_lt ((L.drop a).take k)
  have h2 : (256 : Nat) ^ ((L.drop a).take k).length ≤ 256 ^ 4 := Nat.pow_le_pow_right (by omega) (by rw [List.length_take]; omega)
  have h3 : (256 : Nat) ^ 4 = 4294967296 := by decide
  unfold gN i64ok
  omega
theorem hdR_ok (L : Bs) : (hdR L).Ok := by
  have hz := Rq.z_ok
  exact ⟨gN_small L 0 1 (by decide), gN_small L 1 1 (by decide), gN_small L 2 2 (by decide), gN_lt (by decide), gN_small L 12 1 (by decide), hz.who, hz.role, hz.tier, hz.quota, hz.text, hz.rights, hz.zoom, hz.x0, hz.y0, hz.x1, hz.y1, hz.til, hz.oth, hz.k, hz.area, hz.px, hz.py, hz.lab, hz.fro⟩
theorem fdR_ok (k : Nat) (M : Bs) (r : Rq) (h : r.Ok) (hm : M.length ≤ maxLen) : (fdR k M r).Ok := by
  have s := gN_small M
  have u := fun a => gN_lt (L := M) (a := a) (k := 8) (by decide)
  unfold fdR boxR
  split <;> (constructor <;> first | exact h.op | exact h.ten | exact h.usr | exact h.sec | exact h.m | exact h.who | exact h.role | exact h.tier | exact h.quota | exact h.text | exact h.rights | exact h.zoom | exact h.x0 | exact h.y0 | exact h.x1 | exact h.y1 | exact h.til | exact h.oth | exact h.k | exact h.area | exact h.px | exact h.py | exact h.lab | exact h.fro | exact hm | exact u _ | exact s _ _ (by decide))
theorem dec_ok (L : Bs) (z : Rq) (h : decR L = (0, z)) : z.Ok := by
  unfold decR at h
  by_cases h1 : L.length < 13
  · rw [if_pos h1] at h; cases h
  rw [if_neg h1] at h
  by_cases h2 : 1 ≤ (hdR L).op ∧ (hdR L).op ≤ 19
  rotate_left
  · rw [if_pos h2] at h; cases h
  rw [if_neg (not_not_intro h2)] at h
  by_cases h3 : 64 < (hdR L).m
  · rw [if_pos h3] at h; cases h
  rw [if_neg h3] at h
  by_cases h4 : enoughN (hdR L).op.toNat (L.length - 13) = 0
  rotate_left
  · rw [if_pos h4] at h
    injection h with h5
    exact absurd h5 h4
  rw [if_neg (not_not_intro h4)] at h
  by_cases h5 : badR (hdR L).op.toNat (fdR (hdR L).op.toNat (L.drop 13) (hdR L)) = true
  · rw [if_pos h5] at h; cases h
  rw [if_neg h5] at h
  injection h with _ h
  subst h
  refine fdR_ok _ _ _ (hdR_ok L) ?_
  have hs := fields_sizes (hdR L).op.toNat
  unfold enoughN at h4
  by_cases ha : L.length - 13 < fieldsN (hdR L).op.toNat
  · rw [if_pos ha] at h4; cases h4
  rw [if_neg ha] at h4
  by_cases hb : (if (hdR L).op.toNat = 3 then 512 else fieldsN (hdR L).op.toNat) < L.length - 13
  · rw [if_pos hb] at h4; cases h4
  rw [List.length_drop]
  unfold maxLen
  split at hb <;> omega
abbrev Rq.V (r : Rq) : Value := .agg r.cs
abbrev wRq : Value := .agg #[.int .i64 0, .int .i64 0, .int .i64 0, .int .u64 0, .int .i64 0, .int .i64 0, .int .i64 0, .int .i64 0, .int .i64 0, .string ⟨#[]⟩, .int .i64 0, .int .i64 0, .int .i64 0, .int .i64 0, .int .i64 0, .int .i64 0, .int .i64 0, .int .u64 0, .int .i64 0, .int .u64 0, .int .i64 0, .int .i64 0, .int .i64 0, .int .i64 0]
theorem ok_i64 {x : Int} (h : (Lit.int .i64 x).wf = true) : i64ok x := bounds_i64 h
theorem req_of {H : Type} {enc : TypeId × Value → H} {w : World} {base : Nat} {spare : Nat → Bool} {held : Bool} {fuel : Nat} {cs : Array Value} {y : DataW H × List MemPlace} (h : DataW.trod enc Try.prog w base spare held fuel 31 cs.toList = some y) (hs : cs.size = 24) : ∃ r : Rq, Value.agg cs = r.V ∧ r.Ok := by
  obtain ⟨a0, h0, w0⟩ := leaf_int (o := 0) (u := 3) (k := .i64) (by kernel_rfl) Try.underlying3 h
  obtain ⟨a1, h1, w1⟩ := leaf_int (o := 1) (u := 3) (k := .i64) (by kernel_rfl) Try.underlying3 h
  obtain ⟨a2, h2, w2⟩ := leaf_int (o := 2) (u := 3) (k := .i64) (by kernel_rfl) Try.underlying3 h
  obtain ⟨a4, h4, w4⟩ := leaf_int (o := 4) (u := 3) (k := .i64) (by kernel_rfl) Try.underlying3 h
  obtain ⟨a5, h5, w5⟩ := leaf_int (o := 5) (u := 3) (k := .i64) (by kernel_rfl) Try.underlying3 h
  obtain ⟨a6, h6, w6⟩ := leaf_int (o := 6) (u := 3) (k := .i64) (by kernel_rfl) Try.underlying3 h
  obtain ⟨a7, h7, w7⟩ := leaf_int (o := 7) (u := 3) (k := .i64) (by kernel_rfl) Try.underlying3 h
  obtain ⟨a8, h8, w8⟩ := leaf_int (o := 8) (u := 3) (k := .i64) (by kernel_rfl) Try.underlying3 h
  obtain ⟨a10, h10, w10⟩ := leaf_int (o := 10) (u := 3) (k := .i64) (by kernel_rfl) Try.underlying3 h
  obtain ⟨a11, h11, w11⟩ := leaf_int (o := 11) (u := 3) (k := .i64) (by kernel_rfl) Try.underlying3 h
  obtain ⟨a12, h12, w12⟩ := leaf_int (o := 12) (u := 3) (k := .i64) (by kernel_rfl) Try.underlying3 h
  obtain ⟨a13, h13, w13⟩ := leaf_int (o := 13) (u := 3) (k := .i64) (by kernel_rfl) Try.underlying3 h
  obtain ⟨a14, h14, w14⟩ := leaf_int (o := 14) (u := 3) (k := .i64) (by kernel_rfl) Try.underlying3 h
  obtain ⟨a15, h15, w15⟩ := leaf_int (o := 15) (u := 3) (k := .i64) (by kernel_rfl) Try.underlying3 h
  obtain ⟨a16, h16, w16⟩ := leaf_int (o := 16) (u := 3) (k := .i64) (by kernel_rfl) Try.underlying3 h
  obtain ⟨a18, h18, w18⟩ := leaf_int (o := 18) (u := 3) (k := .i64) (by kernel_rfl) Try.underlying3 h
  obtain ⟨a20, h20, w20⟩ := leaf_int (o := 20) (u := 3) (k := .i64) (by kernel_rfl) Try.underlying3 h
  obtain ⟨a21, h21, w21⟩ := leaf_int (o := 21) (u := 3) (k := .i64) (by kernel_rfl) Try.underlying3 h
  obtain ⟨a22, h22, w22⟩ := leaf_int (o := 22) (u := 3) (k := .i64) (by kernel_rfl) Try.underlying3 h
  obtain ⟨a23, h23, w23⟩ := leaf_int (o := 23) (u := 3) (k := .i64) (by kernel_rfl) Try.underlying3 h
  obtain ⟨b3, h3, w3⟩ := leaf_int (o := 3) (u := 23) (k := .u64) (by kernel_rfl) Try.underlying23 h
  have g3 := bounds_u64 w3
  obtain ⟨a3, rfl⟩ := Int.eq_ofNat_of_zero_le g3.1
  obtain ⟨b17, h17, w17⟩ := leaf_int (o := 17) (u := 23) (k := .u64) (by kernel_rfl) Try.underlying23 h
  have g17 := bounds_u64 w17
  obtain ⟨a17, rfl⟩ := Int.eq_ofNat_of_zero_le g17.1
  obtain ⟨b19, h19, w19⟩ := leaf_int (o := 19) (u := 23) (k := .u64) (by kernel_rfl) Try.underlying23 h
  have g19 := bounds_u64 w19
  obtain ⟨a19, rfl⟩ := Int.eq_ofNat_of_zero_le g19.1
  obtain ⟨a9, h9, w9⟩ := leaf_str (o := 9) (u := 9) (by kernel_rfl) Try.underlying9 h
  refine ⟨⟨a0, a1, a2, a3, a4, a5, a6, a7, a8, a9, a10, a11, a12, a13, a14, a15, a16, a17, a18, a19, a20, a21, a22, a23⟩, ?_, ⟨ok_i64 w0, ok_i64 w1, ok_i64 w2, (show a3 ≤ 18446744073709551615 by omega), ok_i64 w4, ok_i64 w5, ok_i64 w6, ok_i64 w7, ok_i64 w8, w9, ok_i64 w10, ok_i64 w11, ok_i64 w12, ok_i64 w13, ok_i64 w14, ok_i64 w15, ok_i64 w16, (show a17 ≤ 18446744073709551615 by omega), ok_i64 w18, (show a19 ≤ 18446744073709551615 by omega), ok_i64 w20, ok_i64 w21, ok_i64 w22, ok_i64 w23⟩⟩
  obtain ⟨l⟩ := cs
  match l, hs with
  | [x0, x1, x2, x3, x4, x5, x6, x7, x8, x9, x10, x11, x12, x13, x14, x15, x16, x17, x18, x19, x20, x21, x22, x23], _ =>
    simp at h0 h1 h2 h3 h4 h5 h6 h7 h8 h9 h10 h11 h12 h13 h14 h15 h16 h17 h18 h19 h20 h21 h22 h23
    simp [Rq.cs, Rq.l, *]
end Go.Proofs.Ythlmldbgohnpnaa
