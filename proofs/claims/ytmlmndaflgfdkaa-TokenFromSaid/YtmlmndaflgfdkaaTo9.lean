/- token: slices.DeleteFunc of tickets whose secret is gone, by contract. -/
import Derived.Test.YtmlmndaflgfdkaaTo8
namespace Go.Proofs.Ytmlmndaflgfdkaa
set_option linter.unusedVariables false
set_option linter.unusedSimpArgs false
open Go.RowKit
def DelP (v : Value) (G : List Nat) (L : List Tk) (w : World) (e : Ending) (w' : World) : Prop := ∃ v', e = .returned v' ∧ EOwn elT w' v' (keepT G L) ∧ KeV v w w' ∧ v'.ownBlock = v.ownBlock
theorem sl_from (g a n c : Nat) (h1 : a < n) (h2 : n ≤ c) (w : World) : (Instr.slice 25 (.slice (some ⟨g, 0, none⟩) n c) (some (.int .i64 a)) none none).run Try.prog w = .ok (.slice (some ⟨g, a * 10, none⟩) (n - a) (c - a)) w := by
  have hs : ∀ w, (sizeOf 35).run Try.prog w = .ok 10 w := fun w => by kernel_rfl
  have ht : Try.prog.underlying 25 = some (.slice 35) := Try.underlying25
  have he : Try.prog.elem 25 = 35 := by kernel_rfl
  rw [run_slice_l w 25 _ _ _ (by rw [he]; exact ht) .i64 (a : Int) (by omega) (by omega), he, hs]
  have h3 : ¬ c = a := by omega
  simp [sliced, Addr.add, h3]
  omega
theorem sl_to (g a n c : Nat) (h1 : a ≤ n) (h2 : n ≤ c) (w : World) : (Instr.slice 25 (.slice (some ⟨g, 0, none⟩) n c) none (some (.int .i64 a)) none).run Try.prog w = .ok (.slice (some ⟨g, 0, none⟩) a c) w := by
  have hs : ∀ w, (sizeOf 35).run Try.prog w = .ok 10 w := fun w => by kernel_rfl
  have ht : Try.prog.underlying 25 = some (.slice 35) := Try.underlying25
  have he : Try.prog.elem 25 = 35 := by kernel_rfl
  rw [run_slice_h w 25 _ _ _ (by rw [he]; exact ht) .i64 (a : Int) (by omega) (by omega), he, hs]
  simp [sliced, Addr.add]
set_option maxRecDepth 100000 in
set_option maxHeartbeats 8000000 in
theorem delete_any (w : World) (v : Value) (c : Nat) (G : List Nat) (L : List Tk) (h : EOwn elT w v L) (hG : GN w c v G) (hl : G.length ≤ 1000) (hL : L.length ≤ 1000) (hs : SecOk L) :
    Calls Try.prog 54 #[v, .func (.func 55) #[] #[ptrA c]] w (DelP v G L w) := by
  have HI := Lib.hid (index_any w v c G L h hG hl hL hs)
  have HO := Lib.hid h
  have HG := Lib.hid hG
  clear h hG
  go_enter Try.func54, Try.ntmps54
  go_wp2_with fail
  refine HI.out.mono ?_
  rintro e w1 ⟨hb1, ⟨rfl, hkp⟩ | ⟨k0, hk0, rfl, hg0, hkp⟩⟩
  · have HB1 := Lib.hid hb1
    have HKP := Lib.hid hkp
    clear hb1 hkp
    go_wp2
    go_ret
    exact ⟨_, rfl, by rw [HKP.out]; exact HO.out.below HB1.out, KeV.of_below HB1.out, rfl⟩
  · obtain ⟨g, c1, rfl, hr⟩ : ∃ g c1, v = .slice (some ⟨g, 0, none⟩) L.length c1 ∧ ERow elT w g c1 L := by
      rcases HO.out with ⟨_, rfl⟩ | h
      · simp at hk0
      · exact h
    have hcap : L.length ≤ c1 := by obtain ⟨cur, _, _, h, _⟩ := hr; exact h
    have HG1 := Lib.hid (HG.out.below hb1)
    have HR1 := Lib.hid (hr.but hb1)
    have HBT := Lib.hid (But.of_below (r := g) hb1)
    have HST := Lib.hid (show keepT G (L.take (k0 + 1)) = L.take k0 by rw [keepT_take G L k0 hk0, hg0, if_pos rfl, hkp, List.append_nil])
    obtain ⟨n, hn⟩ : ∃ n, n = L.length := ⟨_, rfl⟩
    rw [← hn] at HG1 hcap hL hk0 ⊢
    have HN := Lib.hid hn
    clear hn hb1 hkp hg0 HI HO HG hr
    have hne : ((k0 : Int) == -1) = false := beq_eq_false_iff_ne.2 (by omega)
    go_wp2
    clear hne
    go_loopw [5, 6, 7] (fun i j _ wr => ∃ (k a : Nat) (M : List Tk), k ≤ n ∧ a < k ∧ j = .int .i64 k ∧ i = .int .i64 a ∧ M.length = n ∧ Hid (M.take a = keepT G (L.take k)) ∧ Hid (M.drop k = L.drop k) ∧ Hid (ERow elT wr g c1 M) ∧ Hid (But g w wr) ∧ Hid (GN wr c (.slice (some ⟨g, 0, none⟩) n c1) G)) (fun _ j _ _ => n - (intOf j).toNat)
    case atStart => exact ⟨k0 + 1, k0, L, by omega, by omega, by go_num, rfl, HN.out.symm, HST.out.symm, rfl, HR1.out, HBT.out, HG1.out⟩
    case round =>
      rename_i wr
      obtain ⟨k, a, M, hk, ha, rfl, rfl, hM, HT, HD, HR, HB, HGW⟩ := hrel
      have HML := Lib.hid hM
      clear hM
      by_cases hlt : k < n
      · have hkl : k < L.length := by rw [← HN.out]; exact hlt
        have hkm : k < M.length := by rw [HML.out]; exact hlt
        have HX : Hid (M[k] = L[k]) := by
          have h9 := congrArg (fun X : List Tk => X[0]?) HD.out
          simp only [List.getElem?_drop, Nat.add_zero] at h9
          rw [List.getElem?_eq_getElem hkm, List.getElem?_eq_getElem hkl] at h9
          simpa [Hid] using h9
        have hx : M[k]? = some L[k] := by rw [List.getElem?_eq_getElem hkm, HX.out]
        have HTK := Lib.hid (keepT_take G L k hkl)
        have HDK : Hid (M.drop (k + 1) = L.drop (k + 1)) := by
          have h9 := congrArg (List.drop 1) HD.out
          simp only [List.drop_drop] at h9
          exact h9
        have hsx := (hs _ (List.getElem_mem hkl)).1
        obtain ⟨g', e, a0, a1, a2, a3, a4, a5, a6, a7, a8, a9⟩ := (HR.out.own HML.out.symm).ten hx
        obtain rfl : g = g' := by simpa using e
        have HDC := Lib.hid (fun W (h : GN W c (.slice (some ⟨g, 0, none⟩) n c1) G) => dropc_any W c _ G L[k] h hl hsx)
        clear hx hsx e HX
        generalize L[k] = x at *
        obtain ⟨xs, xp, ⟨g0, g1, g2, g3, g4, g5, g6, g7⟩⟩ := x
        simp only at a0 a1 a2 a3 a4 a5 a6 a7 a8 a9 HTK HDC
        obtain ⟨b, hb⟩ : ∃ b, hasN G xs = b := ⟨_, rfl⟩
        rw [hb] at HTK HDC
        clear hb
        have hlt2 : (k : Int) < n := by omega
        go_upto_region 8 with fail
        have HKR := Lib.hid (Blk.new wr 35 #[.int .u64 xs, .int .u64 xp, .int .i64 g0, .int .i64 g1, .int .i64 g2, .int .i64 g3, .int .i64 g4, .int .i64 g5, .bool g6, .int .i64 g7])
        have hal : Below wr.heap.size wr (wr.alloc (.cells #[.int .u64 xs, .int .u64 xp, .int .i64 g0, .int .i64 g1, .int .i64 g2, .int .i64 g3, .int .i64 g4, .int .i64 g5, .bool g6, .int .i64 g7] 35)) := (Below.refl _ _).alloc (Nat.le_refl _) _
        have HR3 := Lib.hid (HR.out.but hal)
        have HB3 := Lib.hid (HB.out.trans (But.of_below hal))
        have HG3 := Lib.hid (HGW.out.below hal)
        have hgt : g ≠ wr.heap.size := by have := HR.out.lt; omega
        clear a0 a1 a2 a3 a4 a5 a6 a7 a8 a9 HR HB HGW hal
        generalize (wr.alloc (.cells #[.int .u64 xs, .int .u64 xp, .int .i64 g0, .int .i64 g1, .int .i64 g2, .int .i64 g3, .int .i64 g4, .int .i64 g5, .bool g6, .int .i64 g7] 35)) = W3 at *
        generalize wr.heap.size = tr at *
        have r0 := HKR.out.cell 0
        have r1 := HKR.out.cell 1
        have r2 := HKR.out.cell 2
        have r3 := HKR.out.cell 3
        have r4 := HKR.out.cell 4
        have r5 := HKR.out.cell 5
        have r6 := HKR.out.cell 6
        have r7 := HKR.out.cell 7
        have r8 := HKR.out.cell 8
        have r9 := HKR.out.cell 9
        simp only [List.getElem?_toArray, List.getElem?_cons_zero, List.getElem?_cons_succ] at r0 r1 r2 r3 r4 r5 r6 r7 r8 r9
        go_wp2_with fail
        refine (HDC.out _ HG3.out).mono ?_
        rintro e w4 ⟨rfl, hb4⟩
        have HR4 := Lib.hid (HR3.out.but hb4)
        have HB4 := Lib.hid (HB3.out.trans (But.of_below hb4))
        have HG4 := Lib.hid (HG3.out.below hb4)
        have HKR4 := Lib.hid (Blk.thru0 HKR.out hb4)
        clear hb4 HR3 HB3 HG3 HKR r0 r1 r2 r3 r4 r5 r6 r7 r8 r9
        cases b with
        | true =>
          have HT2 := Lib.hid (show M.take a = keepT G (L.take (k + 1)) by rw [HTK.out, if_pos rfl, List.append_nil]; exact HT.out)
          go_wp2
          go_roundw
          case rel => exact ⟨k + 1, a, M, by omega, by omega, by go_num, rfl, HML.out, HT2, HDK, HR4, HB4, HG4⟩
          case measure => simp [intOf]; omega
        | false =>
          have ham : a < M.length := by rw [HML.out]; omega
          have hth : w4.there g (a * 10) 10 := HR4.out.there (a := a) (m := 1) (by omega)
          have HTH := Lib.hid hth
          have HRN : Hid (ERow elT (w4.setCells g (a * 10) (Array.toList #[.int .u64 xs, .int .u64 xp, .int .i64 g0, .int .i64 g1, .int .i64 g2, .int .i64 g3, .int .i64 g4, .int .i64 g5, .bool g6, .int .i64 g7])) g c1 (M.take a ++ [⟨xs, xp, ⟨g0, g1, g2, g3, g4, g5, g6, g7⟩⟩] ++ M.drop (a + 1))) := HR4.out.put (N := [⟨xs, xp, ⟨g0, g1, g2, g3, g4, g5, g6, g7⟩⟩]) elT_ok (by simp; omega)
          have HBN := Lib.hid (HB4.out.trans (But.setCells (g := g) (Array.toList #[.int .u64 xs, .int .u64 xp, .int .i64 g0, .int .i64 g1, .int .i64 g2, .int .i64 g3, .int .i64 g4, .int .i64 g5, .bool g6, .int .i64 g7]) (a * 10) w4))
          have HGN := Lib.hid (HG4.out.but rfl (But.setCells (g := g) (Array.toList #[.int .u64 xs, .int .u64 xp, .int .i64 g0, .int .i64 g1, .int .i64 g2, .int .i64 g3, .int .i64 g4, .int .i64 g5, .bool g6, .int .i64 g7]) (a * 10) w4))
          have HLN : Hid ((M.take a ++ [(⟨xs, xp, ⟨g0, g1, g2, g3, g4, g5, g6, g7⟩⟩ : Tk)] ++ M.drop (a + 1)).length = n) := by
            have := HML.out
            unfold Hid; simp; omega
          have HTN : Hid ((M.take a ++ [(⟨xs, xp, ⟨g0, g1, g2, g3, g4, g5, g6, g7⟩⟩ : Tk)] ++ M.drop (a + 1)).take (a + 1) = keepT G (L.take (k + 1))) := by
            unfold Hid
            rw [HTK.out, if_neg (by simp), ← HT.out, List.take_append_of_le_length (by simp; omega), List.take_of_length_le (by simp; omega)]
          have HDN : Hid ((M.take a ++ [(⟨xs, xp, ⟨g0, g1, g2, g3, g4, g5, g6, g7⟩⟩ : Tk)] ++ M.drop (a + 1)).drop (k + 1) = L.drop (k + 1)) := by
            unfold Hid
            rw [← HDK.out, List.drop_append, List.drop_of_length_le (by simp; omega), List.nil_append, List.drop_drop]
            congr 1
            simp; omega
          have HTY := Lib.hid (show (Try.prog.info? 35).map (·.size) = some 10 by kernel_rfl)
          have HON : Hid (((#[.int .u64 xs, .int .u64 xp, .int .i64 g0, .int .i64 g1, .int .i64 g2, .int .i64 g3, .int .i64 g4, .int .i64 g5, .bool g6, .int .i64 g7] : Array Value).all (·.oneCell')) = true) := all_oneCell_toArray (elT_ok.one ⟨xs, xp, ⟨g0, g1, g2, g3, g4, g5, g6, g7⟩⟩)
          have hai : (a : Int) < (n : Int) := by omega
          have r0 := HKR4.out.cell 0
          have r1 := HKR4.out.cell 1
          have r2 := HKR4.out.cell 2
          have r3 := HKR4.out.cell 3
          have r4 := HKR4.out.cell 4
          have r5 := HKR4.out.cell 5
          have r6 := HKR4.out.cell 6
          have r7 := HKR4.out.cell 7
          have r8 := HKR4.out.cell 8
          have r9 := HKR4.out.cell 9
          simp only [List.getElem?_toArray, List.getElem?_cons_zero, List.getElem?_cons_succ] at r0 r1 r2 r3 r4 r5 r6 r7 r8 r9
          clear hth ham HT HD HDK HTK HR4 HB4 HG4
          have hsome : ∀ j, j < 10 → ∃ u, w4.cell? ⟨g, a * 10 + j, none⟩ = some u := fun j hj => Option.isSome_iff_exists.1 (HTH.out j hj).1
          obtain ⟨u0, e0⟩ := hsome 0 (by omega)
          have f0 := (HTH.out 0 (by omega)).2
          obtain ⟨u1, e1⟩ := hsome 1 (by omega)
          have f1 := (HTH.out 1 (by omega)).2
          obtain ⟨u2, e2⟩ := hsome 2 (by omega)
          have f2 := (HTH.out 2 (by omega)).2
          obtain ⟨u3, e3⟩ := hsome 3 (by omega)
          have f3 := (HTH.out 3 (by omega)).2
          obtain ⟨u4, e4⟩ := hsome 4 (by omega)
          have f4 := (HTH.out 4 (by omega)).2
          obtain ⟨u5, e5⟩ := hsome 5 (by omega)
          have f5 := (HTH.out 5 (by omega)).2
          obtain ⟨u6, e6⟩ := hsome 6 (by omega)
          have f6 := (HTH.out 6 (by omega)).2
          obtain ⟨u7, e7⟩ := hsome 7 (by omega)
          have f7 := (HTH.out 7 (by omega)).2
          obtain ⟨u8, e8⟩ := hsome 8 (by omega)
          have f8 := (HTH.out 8 (by omega)).2
          obtain ⟨u9, e9⟩ := hsome 9 (by omega)
          have f9 := (HTH.out 9 (by omega)).2
          simp only [Nat.add_zero] at e0 f0
          clear hsome
          go_upto_region 10 with fail
          have hE : ((((((((((w4.setCell ⟨g, a * 10, none⟩ (.int .u64 xs)).setCell ⟨g, a * 10 + 1, none⟩ (.int .u64 xp)).setCell ⟨g, a * 10 + 2, none⟩ (.int .i64 g0)).setCell ⟨g, a * 10 + 3, none⟩ (.int .i64 g1)).setCell ⟨g, a * 10 + 4, none⟩ (.int .i64 g2)).setCell ⟨g, a * 10 + 5, none⟩ (.int .i64 g3)).setCell ⟨g, a * 10 + 6, none⟩ (.int .i64 g4)).setCell ⟨g, a * 10 + 7, none⟩ (.int .i64 g5)).setCell ⟨g, a * 10 + 8, none⟩ (.bool g6)).setCell ⟨g, a * 10 + 9, none⟩ (.int .i64 g7)) = w4.setCells g (a * 10) (Array.toList #[.int .u64 xs, .int .u64 xp, .int .i64 g0, .int .i64 g1, .int .i64 g2, .int .i64 g3, .int .i64 g4, .int .i64 g5, .bool g6, .int .i64 g7]) := rfl
          rw [hE]
          clear hE
          generalize (w4.setCells g (a * 10) (Array.toList #[.int .u64 xs, .int .u64 xp, .int .i64 g0, .int .i64 g1, .int .i64 g2, .int .i64 g3, .int .i64 g4, .int .i64 g5, .bool g6, .int .i64 g7])) = W5 at *
          clear e0 f0 e1 f1 e2 f2 e3 f3 e4 f4 e5 f5 e6 f6 e7 f7 e8 f8 e9 f9
          clear r0 r1 r2 r3 r4 r5 r6 r7 r8 r9 HKR4 HTH
          go_wp2
          go_roundw
          case rel => exact ⟨k + 1, a + 1, _, by omega, by omega, by go_num, by go_num, HLN.out, HTN, HDN, HRN, HBN, HGN⟩
          case measure => simp [intOf]; omega
      · obtain rfl : k = n := by omega
        have HFT := Lib.hid (show M.take a = keepT G L by rw [HT.out, List.take_of_length_le (by rw [← HN.out]; omega)])
        have hs1 := sl_from g a k c1 ha hcap
        have hs2 := sl_to g a k c1 (by omega) hcap
        have hth : wr.there g (a * 10) ((k - a) * 10) := HR.out.there (a := a) (m := k - a) (by rw [HML.out]; omega)
        have hcl := run_clearT wr 0 g a (k - a) (c1 - a) (by omega) hth
        have HRN : Hid (ERow elT (wr.setCells g (a * 10) (elT.encs (List.replicate (k - a) Tk.zero))) g c1 (M.take a ++ List.replicate (k - a) Tk.zero ++ M.drop (a + (List.replicate (k - a) Tk.zero).length))) := HR.out.put elT_ok (by rw [List.length_replicate, HML.out]; omega)
        have HBN := Lib.hid (HB.out.trans (But.setCells (g := g) (elT.encs (List.replicate (k - a) Tk.zero)) (a * 10) wr))
        have HFL : Hid ((M.take a).length = a) := by unfold Hid; rw [List.length_take, HML.out]; omega
        clear hth HT HD HR HB HGW
        have HZ : Hid (ERow elT (wr.setCells g (a * 10) (elT.encs (List.replicate (k - a) Tk.zero))) g c1 (keepT G L)) := by
          have h9 := HRN.out.head elT_ok a
          have e9 : (M.take a ++ List.replicate (k - a) Tk.zero ++ M.drop (a + (List.replicate (k - a) Tk.zero).length)).take a = keepT G L := by
            rw [List.append_assoc, List.take_append_of_le_length (by rw [HFL.out]; exact Nat.le_refl _), List.take_of_length_le (by rw [HFL.out]; exact Nat.le_refl _), HFT.out]
          rw [e9] at h9
          exact h9
        have HLK := Lib.hid (show a = (keepT G L).length by rw [← HFT.out, HFL.out])
        clear HRN HFL HFT
        generalize (elT.encs (List.replicate (k - a) Tk.zero)) = zz at *
        go_wp2
        go_ret
        exact ⟨_, rfl, HZ.out.own HLK.out, KeV.of_but HBN.out rfl, rfl⟩
end Go.Proofs.Ytmlmndaflgfdkaa
