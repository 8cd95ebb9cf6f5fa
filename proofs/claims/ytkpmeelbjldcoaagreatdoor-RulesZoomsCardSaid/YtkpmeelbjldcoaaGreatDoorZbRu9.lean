/- Texts: Ru9. -/
import Derived.Test.YtkpmeelbjldcoaaGreatDoorZbRu8
import Derived.Test.YtkpmeelbjldcoaaGreatDoorZbMapG
namespace Go.Proofs.YtkpmeelbjldcoaaGreatDoor
set_option linter.unusedVariables false
set_option linter.unusedSimpArgs false
open Go.RowKit Go.Maps
theorem strKey : Keyed Tryz.prog 9 := string_keyed Tryz.underlying9
def sKey (s : Bs) : Lit := .string s
theorem key_str (s : Bs) (hl : s.length ≤ maxLen) : keyOf Tryz.prog 9 (.string (bs s)) = some (sKey s) := by simp [keyOf, mapKey, sKey, Tryz.underlying9, bs]; simpa [ByteArray.size] using hl
theorem intKey : Keyed Tryz.prog 3 := int_keyed Tryz.underlying3
theorem key_int (n : Int) (h : I64 n) : keyOf Tryz.prog 3 (.int .i64 n) = some (.int .i64 n) := keyOf_int_mk Tryz.underlying3 (by
  have e1 : IntKind.i64.min = -9223372036854775808 := by kernel_rfl
  have e2 : IntKind.i64.max = 9223372036854775807 := by kernel_rfl
  unfold I64 at h
  simp only [Lit.wf, Bool.and_eq_true, decide_eq_true_eq]
  omega)
def zDc : Value := .agg (dcells (Dc.z (0, 0)) (.slice none 0 0)).toArray
theorem zero_decl (w : World) : (zeroValue 41).run Tryz.prog w = .ok zDc w := by kernel_rfl
theorem zero_map (w : World) : (zeroValue 146).run Tryz.prog w = .ok (.map none) w := by kernel_rfl
/-- A checker: its map, its rules, its boxes; the names that it knows, kind by kind. -/
structure CkAt (B C : Nat) (T : List Value) (w : World) (q mo : Nat) (rv : Value) (bx : Int) (I : Int → Option Nat) (N : Int → Bs → Option (Dc × RV)) : Prop where
  blk : Blk w q 61 #[.map (some mo), rv, .int .i64 bx]
  out : ∃ n H, n ≤ C ∧ GMap 3 mapC (.map none) w mo n H ∧ ∀ k, I64 k → H (.int .i64 k) = (I k).map fun b => .map (some b)
  inn : ∀ k b, I64 k → I k = some b → ∃ n H, n ≤ C ∧ GMap 9 (tabC T) zDc w b n H ∧ ∀ s, s.length ≤ maxLen → H (sKey s) = (N k s).map fun x => dV x.1 x.2.v
  no : ∀ k, I64 k → I k = none → ∀ s, N k s = none
  zero : zDc ∈ T
  lo : B ≤ q ∧ B ≤ mo
  low : ∀ k b, I k = some b → I64 k ∧ B ≤ b ∧ b ≠ mo
  inj : ∀ k k' b, I k = some b → I k' = some b → k = k'
theorem nil_look (s : ByteArray) (w : World) : (Instr.lookup 146 (.map none) (.string s) true).run Tryz.prog w = .ok (.tuple #[zDc, .bool false]) w := by kernel_rfl
/-- What a name is known as. -/
def nmD (o : Option (Dc × RV)) : Dc × Value := match o with
  | some x => (x.1, x.2.v)
  | none => (Dc.z (0, 0), .slice none 0 0)
theorem nmD_v (o : Option (Dc × RV)) : (o.map fun x => dV x.1 x.2.v).getD zDc = dV (nmD o).1 (nmD o).2 := by cases o <;> rfl
theorem CkAt.outer {T : List Value} {w : World} {q mo : Nat} {rv : Value} {bx : Int} {B C : Nat} {I : Int → Option Nat} {N : Int → Bs → Option (Dc × RV)} (h : CkAt B C T w q mo rv bx I N) (k : Int) (hk : I64 k) :
    (Instr.lookup 59 (.map (some mo)) (.int .i64 k) false).run Tryz.prog w = .ok (.map (I k)) w := by
  obtain ⟨n, H, -, hg, hH⟩ := h.out
  have := hg.look intKey Tryz.underlying59 (zero_map w) ⟨none, rfl⟩ (key_int k hk)
  rw [hH k hk] at this
  rw [this]
  cases I k <;> rfl
theorem CkAt.inner {T : List Value} {w : World} {q mo : Nat} {rv : Value} {bx : Int} {B C : Nat} {I : Int → Option Nat} {N : Int → Bs → Option (Dc × RV)} (h : CkAt B C T w q mo rv bx I N) (k : Int) (hk : I64 k) (s : Bs) (hs : s.length ≤ maxLen) :
    (Instr.lookup 146 (.map (I k)) (.string (bs s)) true).run Tryz.prog w = .ok (.tuple #[dV (nmD (N k s)).1 (nmD (N k s)).2, .bool (N k s).isSome]) w := by
  cases hI : I k with
  | none =>
    rw [h.no k hk hI s]
    exact nil_look (bs s) w
  | some b =>
    obtain ⟨n, H, -, hg, hH⟩ := h.inn k b hk hI
    have := hg.look_ok strKey Tryz.underlying146 (zero_decl w) h.zero (key_str s hs)
    rw [hH s hs, nmD_v] at this
    rw [this]
    cases N k s <;> rfl
theorem nmD_one (o : Option (Dc × RV)) : (nmD o).2.oneCell' = true := by cases o <;> rfl
set_option maxRecDepth 100000 in
set_option maxHeartbeats 4000000 in
theorem ckrole_any {T : List Value} {w : World} {q mo : Nat} {rv : Value} {bx : Int} {B C : Nat} {I : Int → Option Nat} {N : Int → Bs → Option (Dc × RV)} (h : CkAt B C T w q mo rv bx I N) (s : Bs) (hs : s.length ≤ maxLen) :
    Calls Tryz.prog 101 #[ptr q, .string (bs s)] w fun e w' => e = .returned (.tuple #[.int .i64 (nmD (N 1 s)).1.n, .bool (N 1 s).isSome]) ∧ Below w.heap.size w w' := by
  have c0 : w.cell? ⟨q, 0, none⟩ = some (.map (some mo)) := h.blk.cell 0
  have k1 := h.outer 1 (by unfold I64; omega)
  have k2 := h.inner 1 (by unfold I64; omega) s hs
  generalize I 1 = o1 at *
  have HON := Lib.hid (nmD_one (N 1 s))
  generalize nmD (N 1 s) = y at *
  obtain ⟨y, yb⟩ := y
  simp only at *
  obtain ⟨VX, hVX⟩ : ∃ VX, dV y yb = VX := ⟨_, rfl⟩
  have HVX := Lib.hid hVX
  rw [hVX] at k2
  have HCP := Lib.hid (copy_at w y yb)
  have HTH := Lib.hid ((Blk.new w 41 #[.int .i64 0, .string ⟨#[]⟩, .int .i64 0, .slice none 0 0, .bool false, .string ⟨#[]⟩, .int .i64 0, .int .i64 0, .int .i64 0, .int .i64 0, .int .i64 0, .bool false, .string ⟨#[]⟩, .int .i64 0, .int .i64 0, .int .i64 0, .bool false, .string ⟨#[]⟩, .int .i64 0, .int .i64 0, .int .i64 0, .int .i64 0, .int .i64 0, .int .i64 0]).there (n := 24) (by decide))
  have HIN := Lib.hid (show (Tryz.prog.info? 41).map (·.size) = some (dcells y yb).toArray.size by kernel_rfl)
  have HO2 := Lib.hid (dcells_one y HON.out)
  clear h hVX
  go_enter Tryz.func101, Tryz.ntmps101
  go_upto_region 2 with ((refine wpList_store_mid rfl 41 _ _ rfl w.heap.size 0 (dcells y yb).toArray rfl HVX.out.symm HTH.out HIN.out HO2.out ?_))
  clear HTH HIN HO2 c0 k1 k2
  generalize ((w.alloc (.cells #[.int .i64 0, .string ⟨#[]⟩, .int .i64 0, .slice none 0 0, .bool false, .string ⟨#[]⟩, .int .i64 0, .int .i64 0, .int .i64 0, .int .i64 0, .int .i64 0, .bool false, .string ⟨#[]⟩, .int .i64 0, .int .i64 0, .int .i64 0, .bool false, .string ⟨#[]⟩, .int .i64 0, .int .i64 0, .int .i64 0, .int .i64 0, .int .i64 0, .int .i64 0] 41)).setCells w.heap.size 0 (dcells y yb).toArray.toList) = W1 at *
  have x2 := HCP.out.1.cell 2
  simp only [dcells, List.getElem?_toArray, List.getElem?_cons_zero, List.getElem?_cons_succ] at x2
  go_wp2_with fail
  go_ret2
  exact ⟨rfl, HCP.out.2⟩
set_option maxRecDepth 100000 in
set_option maxHeartbeats 4000000 in
theorem cklabel_any {T : List Value} {w : World} {q mo : Nat} {rv : Value} {bx : Int} {B C : Nat} {I : Int → Option Nat} {N : Int → Bs → Option (Dc × RV)} (h : CkAt B C T w q mo rv bx I N) (s : Bs) (hs : s.length ≤ maxLen) :
    Calls Tryz.prog 139 #[ptr q, .string (bs s)] w fun e w' => e = .returned (.tuple #[.int .i64 (nmD (N 2 s)).1.n, .bool (N 2 s).isSome]) ∧ Below w.heap.size w w' := by
  have c0 : w.cell? ⟨q, 0, none⟩ = some (.map (some mo)) := h.blk.cell 0
  have k1 := h.outer 2 (by unfold I64; omega)
  have k2 := h.inner 2 (by unfold I64; omega) s hs
  generalize I 2 = o1 at *
  have HON := Lib.hid (nmD_one (N 2 s))
  generalize nmD (N 2 s) = y at *
  obtain ⟨y, yb⟩ := y
  simp only at *
  obtain ⟨VX, hVX⟩ : ∃ VX, dV y yb = VX := ⟨_, rfl⟩
  have HVX := Lib.hid hVX
  rw [hVX] at k2
  have HCP := Lib.hid (copy_at w y yb)
  have HTH := Lib.hid ((Blk.new w 41 #[.int .i64 0, .string ⟨#[]⟩, .int .i64 0, .slice none 0 0, .bool false, .string ⟨#[]⟩, .int .i64 0, .int .i64 0, .int .i64 0, .int .i64 0, .int .i64 0, .bool false, .string ⟨#[]⟩, .int .i64 0, .int .i64 0, .int .i64 0, .bool false, .string ⟨#[]⟩, .int .i64 0, .int .i64 0, .int .i64 0, .int .i64 0, .int .i64 0, .int .i64 0]).there (n := 24) (by decide))
  have HIN := Lib.hid (show (Tryz.prog.info? 41).map (·.size) = some (dcells y yb).toArray.size by kernel_rfl)
  have HO2 := Lib.hid (dcells_one y HON.out)
  clear h hVX
  go_enter Tryz.func139, Tryz.ntmps139
  go_upto_region 2 with ((refine wpList_store_mid rfl 41 _ _ rfl w.heap.size 0 (dcells y yb).toArray rfl HVX.out.symm HTH.out HIN.out HO2.out ?_))
  clear HTH HIN HO2 c0 k1 k2
  generalize ((w.alloc (.cells #[.int .i64 0, .string ⟨#[]⟩, .int .i64 0, .slice none 0 0, .bool false, .string ⟨#[]⟩, .int .i64 0, .int .i64 0, .int .i64 0, .int .i64 0, .int .i64 0, .bool false, .string ⟨#[]⟩, .int .i64 0, .int .i64 0, .int .i64 0, .bool false, .string ⟨#[]⟩, .int .i64 0, .int .i64 0, .int .i64 0, .int .i64 0, .int .i64 0, .int .i64 0] 41)).setCells w.heap.size 0 (dcells y yb).toArray.toList) = W1 at *
  have x2 := HCP.out.1.cell 2
  simp only [dcells, List.getElem?_toArray, List.getElem?_cons_zero, List.getElem?_cons_succ] at x2
  go_wp2_with fail
  go_ret2
  exact ⟨rfl, HCP.out.2⟩
end Go.Proofs.YtkpmeelbjldcoaaGreatDoor
