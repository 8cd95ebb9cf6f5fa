/- region: the document's Put and alike, by contract. -/
import Derived.Test.YtimfcgnnfgoaaaaRgB
namespace Go.Proofs.Ytimfcgnnfgoaaaa
set_option linter.unusedVariables false
set_option linter.unusedSimpArgs false
open Go.RowKit
def insN (n : Int) : List Int → List Int
  | [] => [n]
  | x :: r => if n < x then n :: x :: r else x :: insN n r
theorem insN_snoc {n x : Int} : ∀ {M : List Int}, (∃ y ∈ M, n < y) → insN n (M ++ [x]) = insN n M ++ [x]
  | [], h => by obtain ⟨y, hy, _⟩ := h; simp at hy
  | z :: M, h => by
    rw [List.cons_append, insN, insN]
    by_cases hz : n < z
    · rw [if_pos hz, if_pos hz]; rfl
    · rw [if_neg hz, if_neg hz, insN_snoc (M := M), List.cons_append]
      obtain ⟨y, hy, h2⟩ := h
      rcases List.mem_cons.1 hy with rfl | hy
      · exact absurd h2 hz
      · exact ⟨y, hy, h2⟩
theorem insN_end {n : Int} : ∀ {M : List Int}, (∀ y ∈ M, y < n) → insN n M = M ++ [n]
  | [], _ => rfl
  | z :: M, h => by
    have := h z (by simp)
    rw [insN, if_neg (by omega), insN_end fun y hy => h y (by simp [hy]), List.cons_append]
theorem insN_mid {n x : Int} (hx : n < x) : ∀ {M : List Int}, (∀ y ∈ M, y < n) → insN n (M ++ [x]) = M ++ [n] ++ [x]
  | [], _ => by simp [insN, hx]
  | z :: M, h => by
    have := h z (by simp)
    rw [List.cons_append, insN, if_neg (by omega), insN_mid hx fun y hy => h y (by simp [hy])]
    simp
theorem insN_mem (n : Int) : ∀ (l : List Int) (u : Int), u ∈ insN n l ↔ u ∈ l ∨ u = n
  | [], u => by simp [insN]
  | x :: r, u => by
    rw [insN]
    split
    · simp; constructor
      · rintro (h | h | h) <;> simp [h]
      · rintro ((h | h) | h) <;> simp [h]
    · rw [List.mem_cons, insN_mem n r u, List.mem_cons]
      constructor
      · rintro (h | h | h) <;> simp [h]
      · rintro ((h | h) | h) <;> simp [h]
theorem insN_lt {n : Int} : ∀ {l : List Int}, l.Pairwise (· < ·) → n ∉ l → (insN n l).Pairwise (· < ·)
  | [], _, _ => List.pairwise_singleton _ _
  | x :: r, h, hn => by
    have h1 := List.pairwise_cons.1 h
    rw [insN]
    by_cases hx : n < x
    · rw [if_pos hx, List.pairwise_cons]
      refine ⟨fun u hu => ?_, h⟩
      rcases List.mem_cons.1 hu with rfl | hu
      · exact hx
      · have := h1.1 u hu; omega
    · rw [if_neg hx, List.pairwise_cons]
      have hne : n ≠ x := fun e => hn (by simp [e])
      refine ⟨fun u hu => ?_, insN_lt h1.2 (fun h2 => hn (by simp [h2]))⟩
      rcases (insN_mem n r u).1 hu with hu | rfl
      · exact h1.1 u hu
      · omega
theorem insN_len (n : Int) : ∀ l : List Int, (insN n l).length = l.length + 1
  | [] => rfl
  | x :: r => by
    rw [insN]
    split
    · simp
    · rw [List.length_cons, insN_len n r, List.length_cons]
/-- Put under way. -/
structure PSt (l : List Int) (n : Int) (k : Nat) (d : Bool) (O : List Int) : Prop where
  ne : ∀ y ∈ l.take k, y ≠ n
  no : d = false → (∀ y ∈ l.take k, y < n) ∧ O = l.take k
  yes : d = true → (∃ y ∈ l.take k, n < y) ∧ O = insN n (l.take k)
  len : O.length ≤ k + 1
theorem PSt.start (l : List Int) (n : Int) : PSt l n 0 false [] := ⟨by simp, fun _ => ⟨by simp, by simp⟩, (by intro h; cases h), by simp⟩
theorem PSt.more {l : List Int} {n : Int} {k : Nat} {O : List Int} {x : Int} (hk : k < l.length) (hx : l[k]? = some x) (hne : x ≠ n) (h : PSt l n k true O) : PSt l n (k + 1) true (O ++ [x]) := by
  have e : l.take (k + 1) = l.take k ++ [x] := by rw [List.take_succ_eq_append_getElem hk]; rw [List.getElem?_eq_getElem hk] at hx; simp at hx; rw [hx]
  obtain ⟨h1, h2⟩ := h.yes rfl
  refine ⟨fun y hy => ?_, (by intro h9; cases h9), fun _ => ?_, by have := h.len; simp; omega⟩
  · rw [e] at hy
    rcases List.mem_append.1 hy with hy | hy
    · exact h.ne y hy
    · simp at hy; subst hy; exact hne
  · rw [e, insN_snoc h1, h2]
    obtain ⟨y, hy, h3⟩ := h1
    exact ⟨⟨y, by simp [hy], h3⟩, rfl⟩
theorem PSt.here {l : List Int} {n : Int} {k : Nat} {O : List Int} {x : Int} (hk : k < l.length) (hx : l[k]? = some x) (hlt : n < x) (h : PSt l n k false O) : PSt l n (k + 1) true (O ++ [n] ++ [x]) := by
  have e : l.take (k + 1) = l.take k ++ [x] := by rw [List.take_succ_eq_append_getElem hk]; rw [List.getElem?_eq_getElem hk] at hx; simp at hx; rw [hx]
  obtain ⟨h1, h2⟩ := h.no rfl
  refine ⟨fun y hy => ?_, (by intro h9; cases h9), fun _ => ?_, by subst h2; simp; omega⟩
  · rw [e] at hy
    rcases List.mem_append.1 hy with hy | hy
    · exact h.ne y hy
    · simp at hy; subst hy; omega
  · rw [e, insN_mid hlt h1, h2]
    exact ⟨⟨x, by simp, hlt⟩, rfl⟩
theorem PSt.pass {l : List Int} {n : Int} {k : Nat} {O : List Int} {x : Int} (hk : k < l.length) (hx : l[k]? = some x) (hne : x ≠ n) (hlt : ¬ n < x) (h : PSt l n k false O) : PSt l n (k + 1) false (O ++ [x]) := by
  have e : l.take (k + 1) = l.take k ++ [x] := by rw [List.take_succ_eq_append_getElem hk]; rw [List.getElem?_eq_getElem hk] at hx; simp at hx; rw [hx]
  obtain ⟨h1, h2⟩ := h.no rfl
  refine ⟨fun y hy => ?_, fun _ => ⟨fun y hy => ?_, by rw [e, h2]⟩, (by intro h9; cases h9), by have := h.len; simp; omega⟩
  · rw [e] at hy
    rcases List.mem_append.1 hy with hy | hy
    · exact h.ne y hy
    · simp at hy; subst hy; exact hne
  · rw [e] at hy
    rcases List.mem_append.1 hy with hy | hy
    · exact h1 y hy
    · simp at hy; subst hy; omega
/-- A number put into numbers, each once. -/
structure PutR (l : List Int) (n : Int) (L : List Int) : Prop where
  lt : L.Pairwise (· < ·)
  mem : ∀ u, u ∈ L ↔ u ∈ l ∨ u = n
  len : L.length ≤ l.length + 1
theorem PutR.same {l : List Int} {n : Int} (h : l.Pairwise (· < ·)) (hn : n ∈ l) : PutR l n l := ⟨h, fun u => ⟨.inl, fun h2 => by rcases h2 with h2 | rfl <;> assumption⟩, by omega⟩
theorem PutR.ins {l : List Int} {n : Int} (h : l.Pairwise (· < ·)) (hn : n ∉ l) : PutR l n (insN n l) := ⟨insN_lt h hn, insN_mem n l, by rw [insN_len]; omega⟩
theorem PSt.done {l : List Int} {n : Int} {O : List Int} (hl : l.Pairwise (· < ·)) (h : PSt l n l.length true O) : PutR l n O := by
  have e : l.take l.length = l := List.take_length
  obtain ⟨h1, h2⟩ := h.yes rfl
  rw [e] at h2
  have hn : n ∉ l := fun hm => h.ne n (by rw [e]; exact hm) rfl
  rw [h2]
  exact .ins hl hn
theorem PSt.last {l : List Int} {n : Int} {O : List Int} (hl : l.Pairwise (· < ·)) (h : PSt l n l.length false O) : PutR l n (O ++ [n]) := by
  have e : l.take l.length = l := List.take_length
  obtain ⟨h1, h2⟩ := h.no rfl
  rw [e] at h1 h2
  have hn : n ∉ l := fun hm => h.ne n (by rw [e]; exact hm) rfl
  rw [h2, ← insN_end h1]
  exact .ins hl hn
/-- What Put hands back. -/
def PutP (w : World) (l : List Int) (n : Int) (e : Ending) (w' : World) : Prop := ∃ v L, e = .returned v ∧ ERd elI w' v L ∧ PutR l n L ∧ Below w.heap.size w w'
theorem new_int (w : World) (t : TypeId) (x : Int) : ∀ j u, (elI.enc x)[j]? = some u → (w.alloc (.cells #[.int .i64 x] t)).cell? ⟨w.heap.size, j, none⟩ = some u := fun j u hu => new_cellT _ _ _ j (by simpa [elI] using hu)
set_option maxRecDepth 100000 in
set_option maxHeartbeats 8000000 in
theorem rput13_any (w : World) (v : Value) (l : List Int) (x : Int) (h : ERd elI w v l) (hl : l.length ≤ 100000) (hs : l.Pairwise (· < ·)) :
    Calls Try.prog 45 #[v, .int .i64 x] w (PutP w l x) := by
  obtain ⟨A1, c1, rfl, -, -⟩ := h.shape
  have HL := Lib.hid h
  have HS := Lib.hid hs
  clear h hs
  have HTY := Lib.hid (show Try.prog.underlying 50 = some (.slice elI.T) from Try.underlying50)
  obtain ⟨n, hn⟩ : ∃ n, n = l.length := ⟨_, rfl⟩
  rw [← hn] at HL hl ⊢
  have HN := Lib.hid hn; clear hn
  go_enter Try.func45, Try.ntmps45
  go_wp2_with fail
  go_loopw [5, 6, 7] (fun v d i wr => ∃ (k : Nat) (v0 : Value) (d0 : Bool) (O : List Int), k ≤ n ∧ v = v0 ∧ d = .bool d0 ∧ i = .int .i64 k ∧ Hid (FE elI w v0 O wr ∧ PSt l x k d0 O)) (fun _ _ i _ => n - (intOf i).toNat)
  case atStart => exact ⟨0, _, false, [], Nat.zero_le _, rfl, rfl, rfl, Lib.hid ⟨FE.nil_ _ _ (Below.refl _ _), PSt.start _ _⟩⟩
  case round =>
    rename World => wr
    obtain ⟨k, v0, d0, O, hk, hv, rfl, rfl, HF⟩ := hrel
    have hv' := hv.symm
    clear hv
    subst hv'
    by_cases hlt : k < n
    · have hki : (k : Int) < (n : Int) := by omega
      have hkl : k < l.length := by rw [← HN.out]; exact hlt
      have hx : l[k]? = some l[k] := List.getElem?_eq_getElem hkl
      have HMEM := Lib.hid (List.getElem_mem hkl)
      obtain ⟨g, o, rfl, hg, a0⟩ := (HL.out.below HF.out.1.bel).one hx
      generalize l[k] = y at *
      have HX := Lib.hid hx
      have HKL := Lib.hid hkl
      clear hx hg hkl
      have HLE := Lib.hid (show O.length + 2 ≤ 1000000 by have := HF.out.2.len; omega)
      by_cases hyx : y = x
      · have hyb : (y == x) = true := by simp [hyx]
        have HZ := Lib.hid (show PutP w l x (.returned (.slice (some ⟨g, o, none⟩) n c1)) wr from ⟨_, l, rfl, HL.out.below HF.out.1.bel, .same HS.out (by rw [← hyx]; exact HMEM.out), HF.out.1.bel⟩)
        clear hyx
        go_wp2
        go_ret
        exact HZ.out
      · have hyb : (y == x) = false := by simpa using hyx
        obtain ⟨A5, c5, hv5, -, -⟩ := HF.out.1.own.slice
        subst hv5
        obtain ⟨zs, hzs⟩ : ∃ zs, zs = O.length := ⟨_, rfl⟩
        have HF1 := Lib.hid HF.out.1
        rw [← hzs] at HF1 ⊢
        have HZS := Lib.hid hzs
        clear hzs
        have HAL := Lib.hid (fun (W : World) (v9 : Value) (O9 : List Int) (hW : FE elI w v9 O9 W) (ob : Obj) => hW.own.below ((Below.refl W.heap.size W).alloc (Nat.le_refl _) ob))
        cases d0 with
        | true =>
          have HPS := Lib.hid (PSt.more HKL.out HX.out hyx HF.out.2)
          clear hyx HF
          go_wp2_with ((at_builtin; refine wpList_epush elI_ok rfl (.tmp 35) (.tmp 40) _ rfl HTY.out _ O y wr.heap.size 1 rfl rfl (HAL.out _ _ _ HF1.out _) (new_int wr _ y) (by have := HLE.out; omega) ?_; intro v2 w3 hA2; have HP2 := Lib.hid (HF1.out.push hA2); clear hA2))
          go_roundw
          case rel => exact ⟨k + 1, _, true, _, by omega, rfl, rfl, by go_num, Lib.hid ⟨HP2.out, HPS.out⟩⟩
          case measure => simp [intOf]; omega
        | false =>
          by_cases hxy : x < y
          · have HPS := Lib.hid (PSt.here HKL.out HX.out hxy HF.out.2)
            have HYL := Lib.hid (fun X (hX : Below w.heap.size w X) => (HL.out.below hX).one HX.out)
            clear hyx HF
            go_wp2_with ((at_builtin; first
              | (refine wpList_epush elI_ok rfl (.tmp 31) (.tmp 33) _ rfl HTY.out _ O x wr.heap.size 1 rfl rfl (HAL.out _ _ _ HF1.out _) (new_int wr _ x) (by have := HLE.out; omega) ?_; intro v2 w3 hA2; have HP2 := Lib.hid (HF1.out.push hA2); obtain ⟨gq, oq, eq1, -, b0⟩ := HYL.out _ HP2.out.bel; simp only [Option.some.injEq, Addr.mk.injEq, and_true] at eq1; obtain ⟨rfl, rfl⟩ := eq1; obtain ⟨A6, c6, hv6, -, -⟩ := HP2.out.own.slice; subst hv6; clear hA2; generalize hz2 : (O ++ [x]).length = z2 at *; have HZ2 := Lib.hid hz2; clear hz2)
              | (refine wpList_epush elI_ok rfl (.tmp 35) (.tmp 40) _ rfl HTY.out _ (O ++ [x]) y w3.heap.size 1 rfl rfl (HAL.out _ _ _ HP2.out _) (new_int w3 _ y) (by have := HLE.out; simp; omega) ?_; intro v4 w5 hA4; have HP4 := Lib.hid (HP2.out.push hA4); clear hA4)))
            go_roundw
            case rel => exact ⟨k + 1, _, true, _, by omega, rfl, rfl, by go_num, Lib.hid ⟨HP4.out, HPS.out⟩⟩
            case measure => simp [intOf]; omega
          · have HPS := Lib.hid (PSt.pass HKL.out HX.out hyx hxy HF.out.2)
            clear hyx HF
            go_wp2_with ((at_builtin; refine wpList_epush elI_ok rfl (.tmp 35) (.tmp 40) _ rfl HTY.out _ O y wr.heap.size 1 rfl rfl (HAL.out _ _ _ HF1.out _) (new_int wr _ y) (by have := HLE.out; omega) ?_; intro v2 w3 hA2; have HP2 := Lib.hid (HF1.out.push hA2); clear hA2))
            go_roundw
            case rel => exact ⟨k + 1, _, false, _, by omega, rfl, rfl, by go_num, Lib.hid ⟨HP2.out, HPS.out⟩⟩
            case measure => simp [intOf]; omega
    · obtain rfl : k = n := by omega
      have HPT := Lib.hid (show PSt l x l.length d0 O by rw [← HN.out]; exact HF.out.2)
      have HLE := Lib.hid (show O.length + 2 ≤ 1000000 by have := HF.out.2.len; omega)
      have HF1 := Lib.hid HF.out.1
      cases d0 with
      | true =>
        have HZ := Lib.hid (show PutP w l x (.returned v0) wr from ⟨_, O, rfl, ERd.of_own elI_ok HF1.out.own, PSt.done HS.out HPT.out, HF1.out.bel⟩)
        clear HF
        go_wp2
        go_ret
        exact HZ.out
      | false =>
        have HZ := Lib.hid (fun v2 w2 (hF : FE elI w v2 (O ++ [x]) w2) => (show PutP w l x (.returned v2) w2 from ⟨_, O ++ [x], rfl, ERd.of_own elI_ok hF.own, PSt.last HS.out HPT.out, hF.bel⟩))
        obtain ⟨A5, c5, hv5, -, -⟩ := HF1.out.own.slice
        subst hv5
        clear HF
        have HAL := Lib.hid (fun (ob : Obj) => HF1.out.own.below ((Below.refl wr.heap.size wr).alloc (Nat.le_refl _) ob))
        go_wp2_with ((at_builtin; refine wpList_epush elI_ok rfl (.tmp 44) (.tmp 46) _ rfl HTY.out _ O x wr.heap.size 1 rfl rfl (HAL.out _) (new_int wr _ x) (by have := HLE.out; omega) ?_; intro v2 w3 hA2; have HP2 := Lib.hid (HF1.out.push hA2); clear hA2))
        go_ret
        exact HZ.out _ _ HP2.out
end Go.Proofs.Ytimfcgnnfgoaaaa
