/- roster: does, known by contract; operations that came in. -/
import Derived.Test.YtolbjlphpgfcpaaRo6
import Derived.Test.YtolbjlphpgfcpaaSl
namespace Go.Proofs.Ytolbjlphpgfcpaa
set_option linter.unusedVariables false
set_option linter.unusedSimpArgs false
open Go.RowKit Go.ChangeShapes Go.WideShapes Go.Deep
/-- Something that is done with a roster. -/
structure Oq where
  kind : Int
  m : Mb
  fk : Int
  fa : Nat
  n : Int
abbrev Oq.V (o : Oq) : Value := .agg #[.int .i64 o.kind, .int .i64 o.m.user, .int .i64 o.m.role, .int .i64 o.m.tier, .int .i64 o.m.quota, .int .i64 o.m.k, .int .u64 o.m.area, .int .i64 o.fk, .int .u64 o.fa, .int .i64 o.n]
structure Mb.I (m : Mb) : Prop where
  user : -9223372036854775808 ≤ m.user ∧ m.user ≤ 9223372036854775807
  role : -9223372036854775808 ≤ m.role ∧ m.role ≤ 9223372036854775807
  tier : -9223372036854775808 ≤ m.tier ∧ m.tier ≤ 9223372036854775807
  quota : -9223372036854775808 ≤ m.quota ∧ m.quota ≤ 9223372036854775807
  k : -9223372036854775808 ≤ m.k ∧ m.k ≤ 9223372036854775807
  area : m.area ≤ 18446744073709551615
structure Oq.I (o : Oq) : Prop where
  kind : -9223372036854775808 ≤ o.kind ∧ o.kind ≤ 9223372036854775807
  m : o.m.I
  fk : -9223372036854775808 ≤ o.fk ∧ o.fk ≤ 9223372036854775807
  fa : o.fa ≤ 18446744073709551615
  n : -9223372036854775808 ≤ o.n ∧ o.n ≤ 9223372036854775807
abbrev wOq : Value := .agg #[.int .i64 0, .int .i64 0, .int .i64 0, .int .i64 0, .int .i64 0, .int .i64 0, .int .u64 0, .int .i64 0, .int .u64 0, .int .i64 0]
abbrev wMb : Value := .agg #[.int .i64 0, .int .i64 0, .int .i64 0, .int .i64 0, .int .i64 0, .int .u64 0]
theorem mb_of {H : Type} {enc : TypeId × Value → H} {w : World} {base : Nat} {spare : Nat → Bool} {held : Bool} {fuel : Nat} {cs : Array Value} {y : DataW H × List MemPlace} (h : DataW.trod enc Try.prog w base spare held fuel 34 cs.toList = some y) (hs : cs.size = 6) : ∃ m : Mb, Value.agg cs = m.V ∧ m.I := by
  obtain ⟨a0, h0, w0⟩ := leaf_int (o := 0) (u := 3) (k := .i64) (by kernel_rfl) Try.underlying3 h
  obtain ⟨a1, h1, w1⟩ := leaf_int (o := 1) (u := 3) (k := .i64) (by kernel_rfl) Try.underlying3 h
  obtain ⟨a2, h2, w2⟩ := leaf_int (o := 2) (u := 3) (k := .i64) (by kernel_rfl) Try.underlying3 h
  obtain ⟨a3, h3, w3⟩ := leaf_int (o := 3) (u := 3) (k := .i64) (by kernel_rfl) Try.underlying3 h
  obtain ⟨a4, h4, w4⟩ := leaf_int (o := 4) (u := 3) (k := .i64) (by kernel_rfl) Try.underlying3 h
  obtain ⟨a5, h5, w5⟩ := leaf_int (o := 5) (u := 30) (k := .u64) (by kernel_rfl) Try.underlying30 h
  have b5 := bounds_u64 w5
  obtain ⟨a5', rfl⟩ := Int.eq_ofNat_of_zero_le b5.1
  refine ⟨⟨a0, a1, a2, a3, a4, a5'⟩, ?_, ⟨bounds_i64 w0, bounds_i64 w1, bounds_i64 w2, bounds_i64 w3, bounds_i64 w4, (show a5' ≤ 18446744073709551615 by omega)⟩⟩
  obtain ⟨l⟩ := cs
  match l, hs with
  | [x0, x1, x2, x3, x4, x5], _ =>
    simp at h0 h1 h2 h3 h4 h5
    simp [*]
def okOq (cs : List Value) : Prop := ∃ o : Oq, o.I ∧ cs[0]? = some (.int .i64 o.kind) ∧ cs[1]? = some (.int .i64 o.m.user) ∧ cs[2]? = some (.int .i64 o.m.role) ∧ cs[3]? = some (.int .i64 o.m.tier) ∧ cs[4]? = some (.int .i64 o.m.quota) ∧ cs[5]? = some (.int .i64 o.m.k) ∧ cs[6]? = some (.int .u64 o.m.area) ∧ cs[7]? = some (.int .i64 o.fk) ∧ cs[8]? = some (.int .u64 o.fa) ∧ cs[9]? = some (.int .i64 o.n)
theorem okOq_of {H : Type} {enc : TypeId × Value → H} {w : World} {base : Nat} {spare : Nat → Bool} {held : Bool} (fuel : Nat) (cs : List Value) (y : DataW H × List MemPlace) (h : DataW.trod enc Try.prog w base spare held fuel 36 cs = some y) : okOq cs := by
  obtain ⟨k, hk, wk⟩ := leaf_int (o := 0) (u := 3) (k := .i64) (by kernel_rfl) Try.underlying3 h
  obtain ⟨a0, h0, w0⟩ := leaf_int (o := 1) (u := 3) (k := .i64) (by kernel_rfl) Try.underlying3 h
  obtain ⟨a1, h1, w1⟩ := leaf_int (o := 2) (u := 3) (k := .i64) (by kernel_rfl) Try.underlying3 h
  obtain ⟨a2, h2, w2⟩ := leaf_int (o := 3) (u := 3) (k := .i64) (by kernel_rfl) Try.underlying3 h
  obtain ⟨a3, h3, w3⟩ := leaf_int (o := 4) (u := 3) (k := .i64) (by kernel_rfl) Try.underlying3 h
  obtain ⟨a4, h4, w4⟩ := leaf_int (o := 5) (u := 3) (k := .i64) (by kernel_rfl) Try.underlying3 h
  obtain ⟨a5, h5, w5⟩ := leaf_int (o := 6) (u := 30) (k := .u64) (by kernel_rfl) Try.underlying30 h
  obtain ⟨f0, g0, v0⟩ := leaf_int (o := 7) (u := 3) (k := .i64) (by kernel_rfl) Try.underlying3 h
  obtain ⟨f1, g1, v1⟩ := leaf_int (o := 8) (u := 30) (k := .u64) (by kernel_rfl) Try.underlying30 h
  obtain ⟨n, hn, wn⟩ := leaf_int (o := 9) (u := 3) (k := .i64) (by kernel_rfl) Try.underlying3 h
  have b5 := bounds_u64 w5
  have b6 := bounds_u64 v1
  obtain ⟨a5', rfl⟩ := Int.eq_ofNat_of_zero_le b5.1
  obtain ⟨f1', rfl⟩ := Int.eq_ofNat_of_zero_le b6.1
  exact ⟨⟨k, ⟨a0, a1, a2, a3, a4, a5'⟩, f0, f1', n⟩, ⟨bounds_i64 wk, ⟨bounds_i64 w0, bounds_i64 w1, bounds_i64 w2, bounds_i64 w3, bounds_i64 w4, (show a5' ≤ 18446744073709551615 by omega)⟩, bounds_i64 v0, (show f1' ≤ 18446744073709551615 by omega), bounds_i64 wn⟩, hk, h0, h1, h2, h3, h4, h5, g0, g1, hn⟩
def okOqW (_ : World) : List Value → Prop := okOq
theorem okOqP {H : Type} {enc : TypeId × Value → H} {w : World} {base : Nat} {spare : Nat → Bool} {held : Bool} (fuel : Nat) (cs : List Value) (y : DataW H × List MemPlace) (h : DataW.trod enc Try.prog w base spare held fuel 36 cs = some y) (_ : ∀ m ∈ y.1.weights Try.prog 36, m ≤ reachBytes) : okOqW w cs := okOq_of fuel cs y h
theorem oq_of {H : Type} {enc : TypeId × Value → H} {w : World} {base : Nat} {spare : Nat → Bool} {held : Bool} {fuel : Nat} {cs : Array Value} {y : DataW H × List MemPlace} (h : DataW.trod enc Try.prog w base spare held fuel 36 cs.toList = some y) (hs : cs.size = 10) : ∃ o : Oq, Value.agg cs = o.V ∧ o.I := by
  obtain ⟨o, hI, h0, h1, h2, h3, h4, h5, h6, h7, h8, h9⟩ := okOq_of _ _ _ h
  refine ⟨o, ?_, hI⟩
  obtain ⟨l⟩ := cs
  match l, hs with
  | [x0, x1, x2, x3, x4, x5, x6, x7, x8, x9], _ =>
    simp at h0 h1 h2 h3 h4 h5 h6 h7 h8 h9
    simp [*]
def elOq : El Oq := { T := 36, k := 10, by_ := 80, z := wOq, enc := fun o => [.int .i64 o.kind, .int .i64 o.m.user, .int .i64 o.m.role, .int .i64 o.m.tier, .int .i64 o.m.quota, .int .i64 o.m.k, .int .u64 o.m.area, .int .i64 o.fk, .int .u64 o.fa, .int .i64 o.n] }
/-- What is told of an operation; who is there behind it; how many. -/
def opE (H : Int → Option Mb) (o : Oq) : Int := if o.kind = 0 then enE H o.m else if o.kind = 1 then diE H o.m.user else if o.kind = 2 then chE H o.m.user (prE o.fk) else if o.kind = 3 then chE H o.m.user (quE o.n) else chE H o.m.user spE
def opH (H : Int → Option Mb) (o : Oq) : Int → Option Mb := if o.kind = 0 then enH H o.m else if o.kind = 1 then diH H o.m.user else if o.kind = 2 then chH H o.m.user (prM o.fk o.fa) (prE o.fk) else if o.kind = 3 then chH H o.m.user (quM o.n) (quE o.n) else chH H o.m.user spM spE
def opC (H : Int → Option Mb) (o : Oq) (c : Nat) : Nat := if o.kind = 0 then enC H o.m c else if o.kind = 1 then diC H o.m.user c else c
def DoP (y : Nat) (o : Option Nat) (w : World) (n : Nat) (H : Int → Option Mb) (c : Nat) (q : Oq) (e : Ending) (w' : World) : Prop := ∃ o' n', n' ≤ n + 1 ∧ e = .returned (.int .i64 (opE H q)) ∧ RA y o w o' n' (opH H q) (opC H q c) w'
set_option maxRecDepth 100000 in
set_option maxHeartbeats 8000000 in
theorem does_any (w : World) (y n c : Nat) (o : Option Nat) (H : Int → Option Mb) (q : Oq) (h : RS w y o n H c) (hq : q.I) (hn : n ≤ 1000000) :
    Calls Try.prog 10 #[ptrA y, q.V] w (DoP y o w n H c q) := by
  have HR := Lib.hid h
  have HU := Lib.hid hq.m.user
  clear h hq
  have HB := Lib.hid (show Below w.heap.size w (w.alloc (.cells #[.int .i64 q.kind, .int .i64 q.m.user, .int .i64 q.m.role, .int .i64 q.m.tier, .int .i64 q.m.quota, .int .i64 q.m.k, .int .u64 q.m.area, .int .i64 q.fk, .int .u64 q.fa, .int .i64 q.n] 36)) by go_grown)
  have HR2 := Lib.hid (HR.out.below HB.out)
  have HEN := Lib.hid (enrol_any _ y n c o H q.m HR2.out HU.out hn)
  have HDI := Lib.hid (dismiss_any _ y n c o H q.m.user HR2.out HU.out)
  have HPR := Lib.hid (profile_any _ y n c o H q.m.user q.fk q.fa HR2.out HU.out hn)
  have HQU := Lib.hid (quota_any _ y n c o H q.m.user q.n HR2.out HU.out hn)
  have HSP := Lib.hid (spend_any _ y n c o H q.m.user HR2.out HU.out hn)
  unfold DoP opE opH opC
  obtain ⟨kd, ⟨m0, m1, m2, m3, m4, m5⟩, fk, fa, nn⟩ := q
  simp only [Mb.V] at HB HEN HDI HPR HQU HSP HU HR2
  by_cases h0 : kd = 0
  · have e0 : (kd == 0) = true := by simpa using h0
    simp only [h0, if_true]
    clear HDI HPR HQU HSP
    subst h0
    go_enter Try.func10, Try.ntmps10
    go_wp2_with fail
    refine HEN.out.mono ?_
    rintro e w2 ⟨o', n', hn', rfl, hA⟩
    have HA := Lib.hid ((RA.start HR.out HB.out).trans hA)
    have HN := Lib.hid hn'
    clear hA hn'
    go_wp2
    go_ret
    exact ⟨o', n', HN.out, rfl, HA.out⟩
  have e0 : (kd == 0) = false := by simpa using h0
  by_cases h1 : kd = 1
  · subst h1
    simp only [h0, if_false]
    simp only [if_true]
    clear HEN HPR HQU HSP h0 e0
    go_enter Try.func10, Try.ntmps10
    go_wp2_with fail
    refine HDI.out.mono ?_
    rintro e w2 ⟨rfl, hA⟩
    have HA := Lib.hid ((RA.start HR.out HB.out).trans hA)
    clear hA
    go_wp2
    go_ret
    exact ⟨o, n, Nat.le_succ n, rfl, HA.out⟩
  have e1 : (kd == 1) = false := by simpa using h1
  by_cases h2 : kd = 2
  · subst h2
    simp only [h0, h1, if_false]
    simp only [if_true]
    clear HEN HDI HQU HSP h0 h1 e0 e1
    go_enter Try.func10, Try.ntmps10
    go_wp2_with fail
    refine HPR.out.mono ?_
    rintro e w2 ⟨n', hn', rfl, hA⟩
    have HA := Lib.hid ((RA.start HR.out HB.out).trans hA)
    have HN := Lib.hid hn'
    clear hA hn'
    go_wp2
    go_ret
    exact ⟨o, n', HN.out, rfl, HA.out⟩
  have e2 : (kd == 2) = false := by simpa using h2
  by_cases h3 : kd = 3
  · subst h3
    simp only [h0, h1, h2, if_false]
    simp only [if_true]
    clear HEN HDI HPR HSP h0 h1 h2 e0 e1 e2
    go_enter Try.func10, Try.ntmps10
    go_wp2_with fail
    refine HQU.out.mono ?_
    rintro e w2 ⟨n', hn', rfl, hA⟩
    have HA := Lib.hid ((RA.start HR.out HB.out).trans hA)
    have HN := Lib.hid hn'
    clear hA hn'
    go_wp2
    go_ret
    exact ⟨o, n', HN.out, rfl, HA.out⟩
  have e3 : (kd == 3) = false := by simpa using h3
  simp only [h0, h1, h2, h3, if_false]
  clear HEN HDI HPR HQU h0 h1 h2 h3
  go_enter Try.func10, Try.ntmps10
  go_wp2_with fail
  refine HSP.out.mono ?_
  rintro e w2 ⟨n', hn', rfl, hA⟩
  have HA := Lib.hid ((RA.start HR.out HB.out).trans hA)
  have HN := Lib.hid hn'
  clear hA hn'
  go_wp2
  go_ret
  exact ⟨o, n', HN.out, rfl, HA.out⟩
end Go.Proofs.Ytolbjlphpgfcpaa
