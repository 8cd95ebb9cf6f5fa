/- token: plain theory of grants: together, the order and the grouping. -/
import Derived.Test.YtmlmndaflgfdkaaTo0
namespace Go.Proofs.Ytmlmndaflgfdkaa
set_option linter.unusedVariables false
set_option linter.unusedSimpArgs false
theorem rightG_iff (g : Gt) : rightG g = true ↔ (0 ≤ g.ops ∧ g.ops ≤ 31 ∧ 0 ≤ g.zoom ∧ g.zoom ≤ 16 ∧ 0 ≤ g.til ∧ g.til ≤ 4294967295) ∧ ((g.void = true ∧ g.x0 = 0 ∧ g.y0 = 0 ∧ g.x1 = 0 ∧ g.y1 = 0) ∨ (g.void = false ∧ 0 ≤ g.x0 ∧ g.x0 ≤ g.x1 ∧ g.x1 ≤ 65535 ∧ 0 ≤ g.y0 ∧ g.y0 ≤ g.y1 ∧ g.y1 ≤ 65535)) := by
  unfold rightG
  rw [Bool.and_eq_true, numsB_iff]
  cases h : g.void with
  | true => simp
  | false => simp [rightB_iff]
/-- The rectangle that both have. -/
def boxed (a b : Gt) : Prop := a.void = false ∧ b.void = false ∧ max a.x0 b.x0 ≤ min a.x1 b.x1 ∧ max a.y0 b.y0 ≤ min a.y1 b.y1
theorem Gt.ext {a b : Gt} (h1 : a.ops = b.ops) (h2 : a.zoom = b.zoom) (h3 : a.x0 = b.x0) (h4 : a.y0 = b.y0) (h5 : a.x1 = b.x1) (h6 : a.y1 = b.y1) (h7 : a.void = b.void) (h8 : a.til = b.til) : a = b := by
  cases a; cases b; simp_all
structure Rt (g : Gt) : Prop where
  o : 0 ≤ g.ops ∧ g.ops ≤ 31
  z : 0 ≤ g.zoom ∧ g.zoom ≤ 16
  t : 0 ≤ g.til ∧ g.til ≤ 4294967295
  b : (g.void = true ∧ g.x0 = 0 ∧ g.y0 = 0 ∧ g.x1 = 0 ∧ g.y1 = 0) ∨ (g.void = false ∧ 0 ≤ g.x0 ∧ g.x0 ≤ g.x1 ∧ g.x1 ≤ 65535 ∧ 0 ≤ g.y0 ∧ g.y0 ≤ g.y1 ∧ g.y1 ≤ 65535)
theorem rt_iff (g : Gt) : rightG g = true ↔ Rt g := by
  rw [rightG_iff]
  exact ⟨fun h => ⟨⟨h.1.1, h.1.2.1⟩, ⟨h.1.2.2.1, h.1.2.2.2.1⟩, h.1.2.2.2.2, h.2⟩, fun h => ⟨⟨h.o.1, h.o.2, h.z.1, h.z.2, h.t⟩, h.b⟩⟩
/-- What two together are, field by field. -/
structure Mt (a b m : Gt) : Prop where
  o : m.ops = ((a.ops.toNat &&& b.ops.toNat : Nat) : Int)
  z : m.zoom = min a.zoom b.zoom
  t : m.til = min a.til b.til
  b : (boxed a b ∧ m.void = false ∧ m.x0 = max a.x0 b.x0 ∧ m.y0 = max a.y0 b.y0 ∧ m.x1 = min a.x1 b.x1 ∧ m.y1 = min a.y1 b.y1) ∨ (¬ boxed a b ∧ m.void = true ∧ m.x0 = 0 ∧ m.y0 = 0 ∧ m.x1 = 0 ∧ m.y1 = 0)
theorem boxed_iff {a b : Gt} (ha : Rt a) (hb : Rt b) : boxed a b ↔ (a.void = false ∧ b.void = false ∧ rightB (max a.x0 b.x0) (max a.y0 b.y0) (min a.x1 b.x1) (min a.y1 b.y1) = true) := by
  have h1 := ha.b
  have h2 := hb.b
  unfold boxed
  rw [rightB_iff]
  constructor
  · rintro ⟨h3, h4, h5, h6⟩
    refine ⟨h3, h4, ?_⟩
    rw [h3] at h1
    rw [h4] at h2
    simp at h1 h2
    omega
  · rintro ⟨h3, h4, h5⟩
    exact ⟨h3, h4, by omega, by omega⟩
theorem meetG_mt {a b : Gt} (ha : Rt a) (hb : Rt b) : Mt a b (meetG a b) := by
  unfold meetG
  split
  · rename_i h
    exact ⟨rfl, rfl, rfl, .inl ⟨(boxed_iff ha hb).2 h, rfl, rfl, rfl, rfl, rfl⟩⟩
  · rename_i h
    exact ⟨rfl, rfl, rfl, .inr ⟨fun h1 => h ((boxed_iff ha hb).1 h1), rfl, rfl, rfl, rfl, rfl⟩⟩
theorem Mt.rt {a b m : Gt} (ha : Rt a) (hb : Rt b) (h : Mt a b m) : Rt m := by
  obtain ⟨ho, hz, ht, hbx⟩ := h
  refine ⟨?_, ?_, ?_, ?_⟩
  · rw [ho]
    have h1 := ha.o
    have h2 := hb.o
    have : a.ops.toNat &&& b.ops.toNat ≤ a.ops.toNat := Nat.and_le_left
    omega
  · have h1 := ha.z; have h2 := hb.z; omega
  · have h1 := ha.t; have h2 := hb.t; omega
  · rcases hbx with ⟨hx, hv, e0, e1, e2, e3⟩ | ⟨_, hv, e0, e1, e2, e3⟩
    · right
      obtain ⟨h3, h4, h5, h6⟩ := hx
      have h1 := ha.b
      have h2 := hb.b
      rw [h3] at h1
      rw [h4] at h2
      simp at h1 h2
      rw [e0, e1, e2, e3]
      refine ⟨hv, ?_⟩
      omega
    · exact .inl ⟨hv, e0, e1, e2, e3⟩
theorem rt_meet {a b : Gt} (ha : Rt a) (hb : Rt b) : Rt (meetG a b) := (meetG_mt ha hb).rt ha hb
theorem boxed_comm {a b : Gt} (h : boxed a b) : boxed b a := ⟨h.2.1, h.1, by have := h.2.2.1; omega, by have := h.2.2.2; omega⟩
theorem meetG_comm {a b : Gt} (ha : Rt a) (hb : Rt b) : meetG a b = meetG b a := by
  have h1 := meetG_mt ha hb
  have h2 := meetG_mt hb ha
  have ho : (meetG a b).ops = (meetG b a).ops := by rw [h1.o, h2.o, Nat.and_comm]
  have hz : (meetG a b).zoom = (meetG b a).zoom := by rw [h1.z, h2.z]; omega
  have ht : (meetG a b).til = (meetG b a).til := by rw [h1.t, h2.t]; omega
  rcases h1.b with ⟨hx, hv, e0, e1, e2, e3⟩ | ⟨hx, hv, e0, e1, e2, e3⟩
  · rcases h2.b with ⟨hy, hv', f0, f1, f2, f3⟩ | ⟨hy, _⟩
    · exact Gt.ext ho hz (by omega) (by omega) (by omega) (by omega) (by rw [hv, hv']) ht
    · exact absurd (boxed_comm hx) hy
  · rcases h2.b with ⟨hy, _⟩ | ⟨hy, hv', f0, f1, f2, f3⟩
    · exact absurd (boxed_comm hy) hx
    · exact Gt.ext ho hz (by omega) (by omega) (by omega) (by omega) (by rw [hv, hv']) ht
theorem meetG_self {a : Gt} (ha : Rt a) : meetG a a = a := by
  have h1 := meetG_mt ha ha
  have ho : (meetG a a).ops = a.ops := by rw [h1.o, Nat.and_self]; have := ha.o; omega
  have hz : (meetG a a).zoom = a.zoom := by rw [h1.z]; omega
  have ht : (meetG a a).til = a.til := by rw [h1.t]; omega
  rcases h1.b with ⟨hx, hv, e0, e1, e2, e3⟩ | ⟨hx, hv, e0, e1, e2, e3⟩
  · exact Gt.ext ho hz (by omega) (by omega) (by omega) (by omega) (by rw [hv, hx.1]) ht
  · rcases ha.b with ⟨h, f0, f1, f2, f3⟩ | ⟨h, f⟩
    · exact Gt.ext ho hz (by omega) (by omega) (by omega) (by omega) (by rw [hv, h]) ht
    · exact absurd ⟨h, h, by omega, by omega⟩ hx
theorem meetG_assoc {a b c : Gt} (ha : Rt a) (hb : Rt b) (hc : Rt c) : meetG (meetG a b) c = meetG a (meetG b c) := by
  have h1 := meetG_mt ha hb
  have h2 := meetG_mt hb hc
  have r1 := rt_meet ha hb
  have r2 := rt_meet hb hc
  have h3 := meetG_mt r1 hc
  have h4 := meetG_mt ha r2
  generalize meetG a b = m at *
  generalize meetG b c = n at *
  generalize meetG m c = p at *
  generalize meetG a n = q at *
  have hiff : boxed m c ↔ boxed a n := by
    clear h3 h4
    constructor
    · rintro ⟨hm, hcv, k1, k2⟩
      rcases h1.b with ⟨hx, _, e0, e1, e2, e3⟩ | ⟨_, hv, _⟩
      · rw [e0, e2] at k1
        rw [e1, e3] at k2
        simp only [Int.max_le, Int.le_min] at k1 k2
        have hbc : boxed b c := ⟨hx.2.1, hcv, by simp only [Int.max_le, Int.le_min]; omega, by simp only [Int.max_le, Int.le_min]; omega⟩
        rcases h2.b with ⟨_, hnv, f0, f1, f2, f3⟩ | ⟨hy, _⟩
        · exact ⟨hx.1, hnv, by rw [f0, f2]; simp only [Int.max_le, Int.le_min]; omega, by rw [f1, f3]; simp only [Int.max_le, Int.le_min]; omega⟩
        · exact absurd hbc hy
      · rw [hv] at hm; cases hm
    · rintro ⟨hav, hn, k1, k2⟩
      rcases h2.b with ⟨hx, _, e0, e1, e2, e3⟩ | ⟨_, hv, _⟩
      · rw [e0, e2] at k1
        rw [e1, e3] at k2
        simp only [Int.max_le, Int.le_min] at k1 k2
        have hab : boxed a b := ⟨hav, hx.1, by simp only [Int.max_le, Int.le_min]; omega, by simp only [Int.max_le, Int.le_min]; omega⟩
        rcases h1.b with ⟨_, hnv, f0, f1, f2, f3⟩ | ⟨hy, _⟩
        · exact ⟨hnv, hx.2.1, by rw [f0, f2]; simp only [Int.max_le, Int.le_min]; omega, by rw [f1, f3]; simp only [Int.max_le, Int.le_min]; omega⟩
        · exact absurd hab hy
      · rw [hv] at hn; cases hn
  have ho : p.ops = q.ops := by
    rw [h3.o, h4.o, h1.o, h2.o]
    simp only [Int.toNat_natCast]
    rw [Nat.and_assoc]
  have hz : p.zoom = q.zoom := by rw [h3.z, h4.z, h1.z, h2.z, Int.min_assoc]
  have ht : p.til = q.til := by rw [h3.t, h4.t, h1.t, h2.t, Int.min_assoc]
  rcases h3.b with ⟨hx, hv, e0, e1, e2, e3⟩ | ⟨hx, hv, e0, e1, e2, e3⟩
  · rcases h4.b with ⟨hy, hv', f0, f1, f2, f3⟩ | ⟨hy, _⟩
    · have hm := hx.1
      have hn := hy.2.1
      rcases h1.b with ⟨_, _, a0, a1, a2, a3⟩ | ⟨_, hv1, _⟩
      · rcases h2.b with ⟨_, _, b0, b1, b2, b3⟩ | ⟨_, hv2, _⟩
        · exact Gt.ext ho hz (by rw [e0, f0, a0, b0, Int.max_assoc]) (by rw [e1, f1, a1, b1, Int.max_assoc]) (by rw [e2, f2, a2, b2, Int.min_assoc]) (by rw [e3, f3, a3, b3, Int.min_assoc]) (by rw [hv, hv']) ht
        · rw [hv2] at hn; cases hn
      · rw [hv1] at hm; cases hm
    · exact absurd (hiff.1 hx) hy
  · rcases h4.b with ⟨hy, _⟩ | ⟨hy, hv', f0, f1, f2, f3⟩
    · exact absurd (hiff.2 hy) hx
    · exact Gt.ext ho hz (by rw [e0, f0]) (by rw [e1, f1]) (by rw [e2, f2]) (by rw [e3, f3]) (by rw [hv, hv']) ht
theorem meetG_left {a b : Gt} (ha : Rt a) (hb : Rt b) : meetG (meetG a b) a = meetG a b := by
  rw [meetG_comm (rt_meet ha hb) ha, ← meetG_assoc ha ha hb, meetG_self ha]
theorem meetG_right {a b : Gt} (ha : Rt a) (hb : Rt b) : meetG (meetG a b) b = meetG a b := by
  rw [meetG_assoc ha hb hb, meetG_self hb]
theorem meetC_rt {a b : Gt} (ha : Rt a) (hb : Rt b) : meetC a b = meetG a b := by
  rw [meetC, if_pos ⟨(rt_iff a).2 ha, (rt_iff b).2 hb⟩]
theorem meetG_til (a b : Gt) : (meetG a b).til = min a.til b.til := by unfold meetG; split <;> rfl
end Go.Proofs.Ytmlmndaflgfdkaa
