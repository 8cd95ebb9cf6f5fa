/- token: a table as it lies; its secrets listed, found, by contract. -/
import Derived.Test.YtmlmndaflgfdkaaTo0
import Derived.Deep.DeepCutAuto
namespace Go.Proofs.Ytmlmndaflgfdkaa
set_option linter.unusedVariables false
set_option linter.unusedSimpArgs false
open Go.RowKit
abbrev ptrA (y : Nat) : Value := .pointer (some ⟨y, 0, none⟩)
/-- The table at y: its row's value, its tickets. -/
structure TB (w : World) (y : Nat) (v : Value) (L : List Tk) : Prop where
  blk : Blk w y 67 #[v]
  own : EOwn elT w v L
  ne : v.ownBlock ≠ some y
theorem TB.below {w w' : World} {y : Nat} {v : Value} {L : List Tk} (h : TB w y v L) (hb : Below w.heap.size w w') : TB w' y v L := ⟨Blk.thru0 h.blk hb, h.own.below hb, h.ne⟩
def secs (L : List Tk) : List Nat := L.map Tk.sec
theorem secs_length (L : List Tk) : (secs L).length = L.length := by simp [secs]
/-- Secrets that a number can be. -/
def SecOk (L : List Tk) : Prop := ∀ k ∈ L, k.sec ≤ 18446744073709551615 ∧ k.par ≤ 18446744073709551615
theorem EOwn.ten {w : World} {A : Option Addr} {n c : Nat} {L : List Tk} (h : EOwn elT w (.slice A n c) L) {i : Nat} {x : Tk} (hi : L[i]? = some x) : ∃ g, A = some ⟨g, 0, none⟩ ∧
    w.cell? ⟨g, i * 10, none⟩ = some (.int .u64 x.sec) ∧ w.cell? ⟨g, i * 10 + 1, none⟩ = some (.int .u64 x.par) ∧ w.cell? ⟨g, i * 10 + 2, none⟩ = some (.int .i64 x.g.ops) ∧ w.cell? ⟨g, i * 10 + 3, none⟩ = some (.int .i64 x.g.zoom) ∧
    w.cell? ⟨g, i * 10 + 4, none⟩ = some (.int .i64 x.g.x0) ∧ w.cell? ⟨g, i * 10 + 5, none⟩ = some (.int .i64 x.g.y0) ∧ w.cell? ⟨g, i * 10 + 6, none⟩ = some (.int .i64 x.g.x1) ∧ w.cell? ⟨g, i * 10 + 7, none⟩ = some (.int .i64 x.g.y1) ∧
    w.cell? ⟨g, i * 10 + 8, none⟩ = some (.bool x.g.void) ∧ w.cell? ⟨g, i * 10 + 9, none⟩ = some (.int .i64 x.g.til) := by
  obtain ⟨_, g, e, hc⟩ := h.cell elT_ok hi
  exact ⟨g, e, hc 0 _ rfl, hc 1 _ rfl, hc 2 _ rfl, hc 3 _ rfl, hc 4 _ rfl, hc 5 _ rfl, hc 6 _ rfl, hc 7 _ rfl, hc 8 _ rfl, hc 9 _ rfl⟩
set_option maxHeartbeats 1000000 in
theorem tsecret_any (k : Tk) (w : World) : Calls Try.prog 51 #[k.V] w fun e w' => e = .returned (.int .u64 k.sec) ∧ Below w.heap.size w w' := by
  simp only [Tk.V]
  go_enter Try.func51, Try.ntmps51
  go_wp2
  go_ret
  exact ⟨rfl, by go_grown⟩
theorem FU.below {w wr w' : World} {v : Value} {L : List Nat} (h : FU w v L wr) (hb : Below wr.heap.size wr w') : FU w v L w' := ⟨h.own.below hb, below_trans h.bel hb, h.far⟩
set_option maxRecDepth 100000 in
set_option maxHeartbeats 4000000 in
theorem list_any (w : World) (y : Nat) (v : Value) (L : List Tk) (h : TB w y v L) (hl : L.length ≤ 1000) :
    Calls Try.prog 50 #[ptrA y, .func (.func 51) #[] #[]] w fun e w' => ∃ v', e = .returned v' ∧ FU w v' (secs L) w' := by
  obtain ⟨A1, c1, rfl, hc1, hc2⟩ := h.own.slice
  have HB := Lib.hid h.blk
  have HO := Lib.hid h.own
  have ht : Try.prog.underlying 86 = some (.slice elU.T) := Try.underlying86
  have HT := Lib.hid ht; clear ht h hc1 hc2
  obtain ⟨n, hn⟩ : ∃ n, n = L.length := ⟨_, rfl⟩
  rw [← hn] at HB HO hl
  have HN := Lib.hid hn; clear hn
  go_enter Try.func50, Try.ntmps50
  go_upto_region 2 with fail
  have t0 : w.cell? ⟨y, 0, none⟩ = some (.slice A1 n c1) := HB.out.cell 0
  go_wp2_with fail
  go_loopw [5, 7, 13] (fun v _ i wr => ∃ k : Nat, k ≤ n ∧ i = .int .i64 k ∧ FU w v ((secs L).take k) wr) (fun _ _ i _ => n - (intOf i).toNat)
  case atStart => exact ⟨0, Nat.zero_le _, rfl, by simpa using FU.nil_ w w (Below.refl _ _)⟩
  case round =>
    rename_i wr
    clear t0
    obtain ⟨k, hk, rfl, HF⟩ := hrel
    by_cases hlt : k < n
    · have hkl : k < L.length := by rw [← HN.out]; exact hlt
      have hx : L[k]? = some L[k] := List.getElem?_eq_getElem hkl
      have HTK := Lib.hid (show (secs L).take (k + 1) = (secs L).take k ++ [L[k].sec] by
        rw [take_u _ _ (by rw [secs_length]; exact hkl)]; simp [secs])
      obtain ⟨g, rfl, a0, a1, a2, a3, a4, a5, a6, a7, a8, a9⟩ := (HO.out.below HF.bel).ten hx
      generalize L[k] = x at *
      obtain ⟨A2, c2, rfl, hc1, hc2⟩ := HF.own.slice
      have HL : ((secs L).take k).length ≤ 1000000 := by rw [List.length_take]; omega
      have hlt2 : (k : Int) < n := by omega
      have HFH := Lib.hid HF; clear HF
      have HLH := Lib.hid HL; clear HL
      generalize ((secs L).take k).length = z at HFH ⊢
      clear hx hc1 hc2
      obtain ⟨xs, xp, xg⟩ := x
      obtain ⟨g0, g1, g2, g3, g4, g5, g6, g7⟩ := xg
      simp only at a0 a1 a2 a3 a4 a5 a6 a7 a8 a9 HTK
      go_upto_region 5 with fail
      have HKR := Lib.hid (Blk.new wr 35 #[.int .u64 xs, .int .u64 xp, .int .i64 g0, .int .i64 g1, .int .i64 g2, .int .i64 g3, .int .i64 g4, .int .i64 g5, .bool g6, .int .i64 g7])
      have HB3 := Lib.hid (show FU w (.slice A2 z c2) ((secs L).take k) (wr.alloc (.cells #[.int .u64 xs, .int .u64 xp, .int .i64 g0, .int .i64 g1, .int .i64 g2, .int .i64 g3, .int .i64 g4, .int .i64 g5, .bool g6, .int .i64 g7] 35)) from HFH.out.below ((Below.refl _ _).alloc (Nat.le_refl _) _))
      clear a0 a1 a2 a3 a4 a5 a6 a7 a8 a9 HFH
      generalize (wr.alloc (.cells #[.int .u64 xs, .int .u64 xp, .int .i64 g0, .int .i64 g1, .int .i64 g2, .int .i64 g3, .int .i64 g4, .int .i64 g5, .bool g6, .int .i64 g7] 35)) = W3 at *
      generalize wr.heap.size = tr at *
      have r0 := HKR.out.cell 0
      have r1 := HKR.out.cell 1
      have r2 := HKR.out.cell 2
      have r3 := HKR.out.cell 3
      have r4 := HKR.out.cell 4
      have r5 := HKR.out.cell 5
      have r6 := HKR.out.cell 6
      have r7 := HKR.out.cell 7
      have r8 := HKR.out.cell 8
      have r9 := HKR.out.cell 9
      simp only [List.getElem?_toArray, List.getElem?_cons_zero, List.getElem?_cons_succ] at r0 r1 r2 r3 r4 r5 r6 r7 r8 r9
      go_wp2_with fail
      refine (tsecret_any ⟨xs, xp, ⟨g0, g1, g2, g3, g4, g5, g6, g7⟩⟩ _).mono ?_
      rintro e w4 ⟨rfl, hb4⟩
      have HB4 := Lib.hid (HB3.out.below hb4)
      clear hb4 HB3 HKR r0 r1 r2 r3 r4 r5 r6 r7 r8 r9
      go_wp2_with ((at_builtin; refine wpList_epush elU_ok rfl (.tmp 17) (.tmp 21) _ rfl HT.out _ ((secs L).take k) xs w4.heap.size 1 rfl rfl (HB4.out.own.below ((Below.refl _ _).alloc (Nat.le_refl _) _)) (new_u _ _ xs) HLH.out ?_; intro v2 w2 hA2; have HP := Lib.hid (HB4.out.push hA2); clear hA2))
      go_roundw
      case rel => exact ⟨k + 1, by omega, by go_num, by have h9 := HP.out; rw [← HTK.out] at h9; exact h9⟩
      case measure => simp [intOf]; omega
    · obtain rfl : k = n := by omega
      have HF2 := Lib.hid (show FU w _ (secs L) wr by rw [List.take_of_length_le (by rw [secs_length, ← HN.out]; omega)] at HF; exact HF)
      clear HF
      go_wp2
      go_ret
      exact ⟨_, rfl, HF2.out⟩
theorem FU.ru {w wr : World} {v : Value} {L : List Nat} (h : FU w v L wr) (hl : ∀ x ∈ L, x ≤ 18446744073709551615) : ∃ A c, v = .slice A L.length c ∧ RU wr A L.length L := by
  obtain ⟨A, c, rfl, _, _⟩ := h.own.slice
  exact ⟨A, c, rfl, h.own.ru hl⟩
theorem secs_le {L : List Tk} (h : SecOk L) : ∀ x ∈ secs L, x ≤ 18446744073709551615 := by
  intro x hx
  simp only [secs, List.mem_map] at hx
  obtain ⟨k, hk, rfl⟩ := hx
  exact (h k hk).1
set_option maxHeartbeats 1000000 in
theorem tfind_any (w : World) (y : Nat) (v : Value) (L : List Tk) (s : Nat) (hs : s ≤ 18446744073709551615) (h : TB w y v L) (hl : L.length ≤ 1000) (ho : SecOk L) :
    Calls Try.prog 34 #[ptrA y, .int .u64 s] w fun e w' => e = .returned (.int .i64 (fnd (secs L) s)) ∧ Below w.heap.size w w' := by
  have H := Lib.hid h; clear h
  have HL := Lib.hid (secs_length L)
  go_enter Try.func34, Try.ntmps34
  go_wp2_with fail
  refine (list_any _ y v L H.out hl).mono ?_
  rintro e w1 ⟨v', rfl, hF⟩
  obtain ⟨A, c, rfl, hR⟩ := hF.ru (secs_le ho)
  have HB1 := Lib.hid hF.bel
  have HR := Lib.hid hR
  clear hF hR
  go_wp2_with fail
  refine (find_any (secs L) A _ c s hs _ HR.out (by rw [HL.out]; omega)).mono ?_
  rintro e w2 ⟨rfl, hb2⟩
  have HB2 := Lib.hid (below_trans HB1.out hb2)
  clear hb2
  go_wp2
  go_ret
  exact ⟨rfl, HB2.out⟩
/-- Is s one of some? -/
def hasN (G : List Nat) (s : Nat) : Bool := decide (0 ≤ fnd G s)
set_option maxHeartbeats 1000000 in
theorem thas_any (w : World) (A : Option Addr) (c : Nat) (G : List Nat) (s : Nat) (hs : s ≤ 18446744073709551615) (h : RU w A G.length G) (hl : G.length ≤ 1000) :
    Calls Try.prog 53 #[.slice A G.length c, .int .u64 s] w fun e w' => e = .returned (.bool (hasN G s)) ∧ Below w.heap.size w w' := by
  have H := Lib.hid h; clear h
  go_enter Try.func53, Try.ntmps53
  go_wp2_with fail
  refine (find_any G A _ c s hs _ H.out (by omega)).mono ?_
  rintro e w2 ⟨rfl, hb2⟩
  have HB2 := Lib.hid hb2
  clear hb2
  go_wp2
  go_ret
  exact ⟨rfl, HB2.out⟩
end Go.Proofs.Ytmlmndaflgfdkaa
