/- wire: the document's put and values, by contract (WrU, WrV: never import these beside it). -/
import Derived.Test.YthlmldbgohnpnaaWr3
import Derived.Test.YthlmldbgohnpnaaSe4
import Derived.Test.YthlmldbgohnpnaaRefPut
import Derived.Test.YthlmldbgohnpnaaWrA
namespace Go.Proofs.Ythlmldbgohnpnaa
section
set_option linter.unusedVariables false
set_option linter.unusedSimpArgs false
open Go.RowKit
/-- A row of bytes made since w. -/
structure FBy (w : World) (v : Value) (L : Bs) (wr : World) : Prop where
  own : EOwn elB wr v L
  bel : Below w.heap.size w wr
  far : ∀ i, v.ownBlock = some i → w.heap.size ≤ i
theorem FBy.nil_ (w wr : World) (h : Below w.heap.size w wr) : FBy w (.slice none 0 0) [] wr := ⟨EOwn.nil_ _, h, fun i hi => by simp [Value.ownBlock] at hi⟩
theorem FBy.app {w wr w1 w' : World} {v v' : Value} {L M : Bs} (h : FBy w v L wr) (hb : Below wr.heap.size wr w1) (ha : EApp elB v (L ++ M) w1 v' w') : FBy w v' (L ++ M) w' := by
  have hs : w.heap.size ≤ w1.heap.size := Nat.le_trans h.bel.size hb.size
  refine ⟨ha.1, (h.bel.trans (hb.mono h.bel.size)).grown ha.2.1 hs h.far, fun i hi => ?_⟩
  rcases ha.2.2 i hi with h4 | h4
  · exact h.far i h4
  · omega
theorem FBy.below {w wr w' : World} {v : Value} {L : Bs} (h : FBy w v L wr) (hb : Below wr.heap.size wr w') : FBy w v L w' := ⟨h.own.below hb, h.bel.trans (hb.mono h.bel.size), h.far⟩
theorem rbv_encs (M : Bs) : elB.encs M = bv M := by
  induction M with
  | nil => rfl
  | cons c M ih =>
    have e1 : elB.encs (c :: M) = elB.enc c ++ elB.encs M := rfl
    rw [e1, ih]; rfl
theorem FBy.up {w w1 w' : World} {v : Value} {R : Bs} (h : FBy w1 v R w') (hb : Below w.heap.size w w1) : FBy w v R w' := ⟨h.own, hb.trans (h.bel.mono hb.size), fun i hi => Nat.le_trans hb.size (h.far i hi)⟩
/-- Bytes are put behind a row: its own block may turn, all else is kept. -/
structure Ap (w0 w : World) (v : Value) (R : Bs) (v' : Value) (w' : World) : Prop where
  f : FBy w0 v' R w'
  size : w.heap.size ≤ w'.heap.size
  keep : ∀ i, i < w.heap.size → v.ownBlock ≠ some i → w'.heap[i]? = w.heap[i]?
  own : ∀ i, v'.ownBlock = some i → v.ownBlock = some i ∨ w.heap.size ≤ i
theorem Ap.refl {w0 w : World} {v : Value} {R : Bs} (h : FBy w0 v R w) : Ap w0 w v R v w := ⟨h, Nat.le_refl _, fun _ _ _ => rfl, fun _ h => .inl h⟩
theorem Ap.step {w0 w w1 w2 : World} {v v1 v2 : Value} {R R2 : Bs} (h : Ap w0 w v R v1 w1) (k : Ap w0 w1 v1 R2 v2 w2) : Ap w0 w v R2 v2 w2 := by
  refine ⟨k.f, Nat.le_trans h.size k.size, fun i hi hn => ?_, fun i hi => ?_⟩
  · rw [k.keep i (Nat.lt_of_lt_of_le hi h.size) (fun e => ?_), h.keep i hi hn]
    rcases h.own i e with h1 | h1
    · exact hn h1
    · omega
  · rcases k.own i hi with h1 | h1
    · exact h.own i h1
    · exact .inr (Nat.le_trans h.size h1)
theorem Ap.below {w0 w w1 w2 : World} {v v1 : Value} {R : Bs} (h : Ap w0 w v R v1 w1) (hb : Below w1.heap.size w1 w2) : Ap w0 w v R v1 w2 :=
  ⟨h.f.below hb, Nat.le_trans h.size hb.size, fun i hi hn => (hb.block i (Nat.lt_of_lt_of_le hi h.size)).trans (h.keep i hi hn), h.own⟩
theorem Ap.pre {w0 w w1 w2 : World} {v v2 : Value} {R : Bs} (hb : Below w.heap.size w w1) (h : Ap w0 w1 v R v2 w2) : Ap w0 w v R v2 w2 :=
  ⟨h.f, Nat.le_trans hb.size h.size, fun i hi hn => (h.keep i (Nat.lt_of_lt_of_le hi hb.size) hn).trans (hb.block i hi), fun i hi => (h.own i hi).imp id (Nat.le_trans hb.size)⟩
theorem Ap.app {w0 w w1 w2 w3 : World} {v v1 v2 : Value} {R M : Bs} (h : Ap w0 w v R v1 w1) (hb : Below w1.heap.size w1 w2) (ha : EApp elB v1 (R ++ M) w2 v2 w3) : Ap w0 w v (R ++ M) v2 w3 := by
  refine (h.below hb).step ⟨(h.below hb).f.app (Below.refl _ _) ha, ha.2.1.size, fun i hi hn => ha.2.1.block i hi (fun e => hn e.symm), fun i hi => ?_⟩
  rcases ha.2.2 i hi with h1 | h1
  · exact .inl h1
  · exact .inr (by omega)
theorem Ap.blk {w0 w w' : World} {v v' : Value} {R : Bs} {q : Nat} {t : TypeId} {cs : Array Value} (h : Ap w0 w v R v' w') (hb : Blk w q t cs) (hn : v.ownBlock ≠ some q) : Blk w' q t cs := (h.keep q hb.lt hn).trans hb
theorem own_cells {w : World} {base k : Nat} {l : Value} {xs : Bs} (h : w.ownsRow base 5 1 l k (bv xs)) (hk : 0 < k) : ∃ g cap cur, l = .slice (some ⟨g, 0, none⟩) k cap ∧ base ≤ g ∧ Blk w g 5 cur ∧ ∀ (j : Nat) (x : UInt8), xs[j]? = some x → cur[j]? = some (.int .u8 (x.toNat : Int)) := by
  rcases h.2 with ⟨_, h0⟩ | ⟨g, cap, cur, hv, hbs, hb, _, _, hs, ht⟩
  · exfalso; omega
  · refine ⟨g, cap, cur, hv, hbs, hb, fun j x hx => ?_⟩
    have h1 : (bv xs)[j]? = some (.int .u8 (x.toNat : Int)) := by simp [bv, hx]
    rw [← ht, List.getElem?_take] at h1
    split at h1
    · simpa using h1
    · cases h1
theorem one_new2 (w : World) (x : UInt8) (t : TypeId) : Reads (w.alloc (.cells #[.int .u8 (x.toNat : Int)] t)) (w.alloc (.cells #[.int .u8 (x.toNat : Int)] t)).heap.size 1 (some ⟨w.heap.size, 0, none⟩) 1 (elB.encs [x]) := by
  have h := one_new w (.int .u8 (x.toNat : Int)) t
  have hs : (w.alloc (.cells #[.int .u8 (x.toNat : Int)] t)).heap.size = w.heap.size + 1 := by simp
  rw [hs]
  exact h
set_option maxRecDepth 100000 in
set_option maxHeartbeats 4000000 in
theorem wput_pos (w0 w : World) (v : Value) (R : Bs) (x : Int) (n k : Nat) (hx : 0 ≤ x) (hxn : toU x = n) (h1 : 1 ≤ k) (h8 : k ≤ 8) (hn : n ≤ 18446744073709551615) (h : FBy w0 v R w) (hl : R.length ≤ 2000) :
    Calls Try.prog 27 #[v, .int .i64 x, .int .i64 (k : Int)] w fun e w' => ∃ v', e = .returned (.tuple #[v', .bool (decide (n < 256 ^ k))]) ∧ Ap w0 w v (R ++ be k n) v' w' := by
  have HP := Lib.hid (refput_any k n h1 h8 hn w)
  unfold RPost at HP
  have wu := wrapU x
  rw [hxn] at wu
  have hx9 : ¬ x < 0 := by omega
  clear hxn hx
  have HF := Lib.hid h
  have HL := Lib.hid hl
  have HVL := Lib.hid (fun i hi => h.own.lt (i := i) hi)
  have H1 := Lib.hid h1
  have H8 := Lib.hid h8
  have HBL := Lib.hid (be_length k n)
  generalize be k n = P at *
  generalize decide (n < 256 ^ k) = okb at *
  clear h1 h hl
  go_enter Try.func27, Try.ntmps27
  go_wp2_with fail
  refine HP.out.mono ?_
  rintro e w1 ⟨l, rfl, hown, hb⟩
  obtain ⟨g, cap, cur, rfl, hgb, hbl, hce⟩ := own_cells hown H1.out
  have HB1 := Lib.hid hb
  have HGB := Lib.hid hgb
  have HBK := Lib.hid hbl
  have HCE := Lib.hid hce
  have HVG : Hid (v.ownBlock ≠ some g) := Lib.hid (fun e => by have := HVL.out g e; have := HGB.out; omega)
  have HA0 := Lib.hid (Ap.refl (HF.out.below hb))
  clear hown hb hgb hbl hce
  go_wp2_with fail
  go_loopw [0, 10] (fun b i wr => ∃ j : Nat, j ≤ k ∧ i = .int .i64 j ∧ Hid (Ap w0 w1 v (R ++ P.take j) b wr)) (fun _ i _ => k - (intOf i).toNat)
  case atStart => exact ⟨0, Nat.zero_le _, rfl, by simpa using HA0⟩
  case round =>
    rename World => wr
    obtain ⟨j, hj, rfl, HA⟩ := hrel
    obtain ⟨A2, c2, hv, hl2, hm2⟩ := HA.out.f.own.slice
    by_cases hlt : j < k
    · have hjl : j < P.length := by rw [HBL.out]; exact hlt
      have HTK : Hid (R ++ P.take (j + 1) = (R ++ P.take j) ++ [P[j]]) := Lib.hid (by rw [List.take_succ_eq_append_getElem hjl, List.append_assoc])
      have kc := (HA.out.blk HBK.out HVG.out).cell j
      rw [HCE.out j P[j] (List.getElem?_eq_getElem hjl)] at kc
      generalize P[j] = x at *
      have HLQ : Hid ((R ++ P.take j).length ≤ 2010) := Lib.hid (by have h1 := HL.out; have h2 := HBL.out; have h3 := H8.out; rw [List.length_append, List.length_take]; omega)
      generalize R ++ P.take j = Q at *
      generalize Q.length = lj at hv hl2
      subst hv
      clear hl2 hm2 hjl
      have HOW := Lib.hid (HA.out.f.own.below ((Below.refl _ _).alloc (Nat.le_refl _) (.cells #[.int .u8 (x.toNat : Int)] 5)))
      have HRM := Lib.hid (one_new2 wr x 5)
      go_wp2_with ((at_builtin; go_loud (refine wpList_eappr2 (e2 := 5) elB_ok rfl _ _ 22 22 rfl (by kernel_rfl) (by kernel_rfl) _ Q [x] (some ⟨wr.heap.size, 0, none⟩) 1 rfl rfl HOW.out HRM.out (by have := HLQ.out; simp only [maxLen, List.length_cons, List.length_nil]; omega) (by have := HLQ.out; have h1 : elB.by_ = 1 := rfl; rw [h1, List.length_cons, List.length_nil]; omega) ?_; intro v' w9 hA; have HA9 := Lib.hid (HA.out.app ((Below.refl _ _).alloc (Nat.le_refl _) _) hA); clear hA)))
      go_roundw
      case rel => exact ⟨j + 1, by omega, by go_num, Lib.hid (by rw [HTK.out]; exact HA9.out)⟩
      case measure => simp [intOf]; omega
    · obtain rfl : j = k := by omega
      have HT2 : Hid (P.take j = P) := Lib.hid (by rw [← HBL.out, List.take_length])
      rw [HT2.out] at HA hv
      generalize (R ++ P).length = lj at hv hl2
      subst hv
      go_wp2_with fail
      go_ret2
      exact ⟨_, rfl, HA.out.pre HB1.out⟩
set_option maxHeartbeats 2000000 in
theorem wput_neg (w0 w : World) (v : Value) (R : Bs) (x : Int) (k : Nat) (hx : x < 0) (h : FBy w0 v R w) :
    Calls Try.prog 27 #[v, .int .i64 x, .int .i64 (k : Int)] w fun e w' => ∃ v', e = .returned (.tuple #[v', .bool false]) ∧ Ap w0 w v R v' w' := by
  have HA := Lib.hid (Ap.refl h)
  clear h
  go_enter Try.func27, Try.ntmps27
  go_wp2_with fail
  go_ret2
  exact ⟨_, rfl, HA.out⟩
end
section
set_option linter.unusedVariables false
set_option linter.unusedSimpArgs false
open Go.RowKit
def elV : El Int := { T := 3, k := 1, by_ := 8, z := .int .i64 0, enc := fun c => [.int .i64 c] }
theorem elV_ok : elV.Ok := ⟨Nat.one_pos, fun _ => rfl, fun x u hu => by simp [elV] at hu; subst hu; rfl, by kernel_rfl, rfl, by decide⟩
/-- The numbers of an operation's fields. -/
def valsN (r : Rq) : List Int :=
  if r.op = 1 then [r.who, r.role, r.tier, r.quota] else
  if r.op = 2 then [r.who] else
  if r.op = 4 then [r.who, r.rights, r.til] else
  if r.op = 5 then [r.rights, r.zoom, r.x0, r.y0, r.x1, r.y1, r.til] else
  if r.op = 7 then [r.k] else
  if r.op = 8 then [r.px, r.py, r.lab] else
  if r.op = 13 then [r.x0, r.y0, r.x1, r.y1] else
  if r.op = 14 then [r.px, r.py] else
  if r.op = 15 then [r.x0, r.y0, r.x1, r.y1] else
  if r.op = 16 then [r.px, r.py] else
  if r.op = 17 then [r.fro] else
  if r.op = 19 then [r.who, r.quota] else
  []
def ValP (L : List Int) (w : World) (e : Ending) (w' : World) : Prop := ∃ g, e = .returned (.slice (some ⟨g, 0, none⟩) L.length L.length) ∧ EOwn elV w' (.slice (some ⟨g, 0, none⟩) L.length L.length) L ∧ w.heap.size ≤ g ∧ Below w.heap.size w w'
theorem ValP.mk {L : List Int} {w w' : World} {g : Nat} {cs : Array Value} (hc : cs.toList = elV.encs L) (hl : L.length ≤ 100) (hg : w.heap.size ≤ g) (h : Blk w' g 3 cs) (hb : Below w.heap.size w w') : ValP L w (.returned (.slice (some ⟨g, 0, none⟩) L.length L.length)) w' := ⟨g, rfl, EOwn.block elV_ok h hc (by omega), hg, hb⟩
set_option maxRecDepth 100000 in
set_option maxHeartbeats 8000000 in
theorem rvals_1 (r : Rq) (w : World) (hop : r.op = 1) : Calls Try.prog 29 #[.agg r.cs] w fun e w' => ValP [r.who, r.role, r.tier, r.quota] w e w' := by
  have e0 : r.cs[0]? = some (.int .i64 1) := by rw [← hop]; rfl
  have e1 : r.cs[1]? = some (.int .i64 r.ten) := rfl
  have e2 : r.cs[2]? = some (.int .i64 r.usr) := rfl
  have e3 : r.cs[3]? = some (.int .u64 (r.sec : Int)) := rfl
  have e4 : r.cs[4]? = some (.int .i64 r.m) := rfl
  have e5 : r.cs[5]? = some (.int .i64 r.who) := rfl
  have e6 : r.cs[6]? = some (.int .i64 r.role) := rfl
  have e7 : r.cs[7]? = some (.int .i64 r.tier) := rfl
  have e8 : r.cs[8]? = some (.int .i64 r.quota) := rfl
  have e9 : r.cs[9]? = some (.string (bs r.text)) := rfl
  have e10 : r.cs[10]? = some (.int .i64 r.rights) := rfl
  have e11 : r.cs[11]? = some (.int .i64 r.zoom) := rfl
  have e12 : r.cs[12]? = some (.int .i64 r.x0) := rfl
  have e13 : r.cs[13]? = some (.int .i64 r.y0) := rfl
  have e14 : r.cs[14]? = some (.int .i64 r.x1) := rfl
  have e15 : r.cs[15]? = some (.int .i64 r.y1) := rfl
  have e16 : r.cs[16]? = some (.int .i64 r.til) := rfl
  have e17 : r.cs[17]? = some (.int .u64 (r.oth : Int)) := rfl
  have e18 : r.cs[18]? = some (.int .i64 r.k) := rfl
  have e19 : r.cs[19]? = some (.int .u64 (r.area : Int)) := rfl
  have e20 : r.cs[20]? = some (.int .i64 r.px) := rfl
  have e21 : r.cs[21]? = some (.int .i64 r.py) := rfl
  have e22 : r.cs[22]? = some (.int .i64 r.lab) := rfl
  have e23 : r.cs[23]? = some (.int .i64 r.fro) := rfl
  go_enter Try.func29, Try.ntmps29
  go_wp2_with fail
  go_ret
  exact ValP.mk (g := w.heap.size + 1 + 1) (L := [r.who, r.role, r.tier, r.quota]) (by rfl) (by simp) (by omega) (Blk.newAt (by simp)) (by go_grown)
set_option maxRecDepth 100000 in
set_option maxHeartbeats 8000000 in
theorem rvals_2 (r : Rq) (w : World) (hop : r.op = 2) : Calls Try.prog 29 #[.agg r.cs] w fun e w' => ValP [r.who] w e w' := by
  have e0 : r.cs[0]? = some (.int .i64 2) := by rw [← hop]; rfl
  have e1 : r.cs[1]? = some (.int .i64 r.ten) := rfl
  have e2 : r.cs[2]? = some (.int .i64 r.usr) := rfl
  have e3 : r.cs[3]? = some (.int .u64 (r.sec : Int)) := rfl
  have e4 : r.cs[4]? = some (.int .i64 r.m) := rfl
  have e5 : r.cs[5]? = some (.int .i64 r.who) := rfl
  have e6 : r.cs[6]? = some (.int .i64 r.role) := rfl
  have e7 : r.cs[7]? = some (.int .i64 r.tier) := rfl
  have e8 : r.cs[8]? = some (.int .i64 r.quota) := rfl
  have e9 : r.cs[9]? = some (.string (bs r.text)) := rfl
  have e10 : r.cs[10]? = some (.int .i64 r.rights) := rfl
  have e11 : r.cs[11]? = some (.int .i64 r.zoom) := rfl
  have e12 : r.cs[12]? = some (.int .i64 r.x0) := rfl
  have e13 : r.cs[13]? = some (.int .i64 r.y0) := rfl
  have e14 : r.cs[14]? = some (.int .i64 r.x1) := rfl
  have e15 : r.cs[15]? = some (.int .i64 r.y1) := rfl
  have e16 : r.cs[16]? = some (.int .i64 r.til) := rfl
  have e17 : r.cs[17]? = some (.int .u64 (r.oth : Int)) := rfl
  have e18 : r.cs[18]? = some (.int .i64 r.k) := rfl
  have e19 : r.cs[19]? = some (.int .u64 (r.area : Int)) := rfl
  have e20 : r.cs[20]? = some (.int .i64 r.px) := rfl
  have e21 : r.cs[21]? = some (.int .i64 r.py) := rfl
  have e22 : r.cs[22]? = some (.int .i64 r.lab) := rfl
  have e23 : r.cs[23]? = some (.int .i64 r.fro) := rfl
  go_enter Try.func29, Try.ntmps29
  go_wp2_with fail
  go_ret
  exact ValP.mk (g := w.heap.size + 1 + 1) (L := [r.who]) (by rfl) (by simp) (by omega) (Blk.newAt (by simp)) (by go_grown)
set_option maxRecDepth 100000 in
set_option maxHeartbeats 8000000 in
theorem rvals_4 (r : Rq) (w : World) (hop : r.op = 4) : Calls Try.prog 29 #[.agg r.cs] w fun e w' => ValP [r.who, r.rights, r.til] w e w' := by
  have e0 : r.cs[0]? = some (.int .i64 4) := by rw [← hop]; rfl
  have e1 : r.cs[1]? = some (.int .i64 r.ten) := rfl
  have e2 : r.cs[2]? = some (.int .i64 r.usr) := rfl
  have e3 : r.cs[3]? = some (.int .u64 (r.sec : Int)) := rfl
  have e4 : r.cs[4]? = some (.int .i64 r.m) := rfl
  have e5 : r.cs[5]? = some (.int .i64 r.who) := rfl
  have e6 : r.cs[6]? = some (.int .i64 r.role) := rfl
  have e7 : r.cs[7]? = some (.int .i64 r.tier) := rfl
  have e8 : r.cs[8]? = some (.int .i64 r.quota) := rfl
  have e9 : r.cs[9]? = some (.string (bs r.text)) := rfl
  have e10 : r.cs[10]? = some (.int .i64 r.rights) := rfl
  have e11 : r.cs[11]? = some (.int .i64 r.zoom) := rfl
  have e12 : r.cs[12]? = some (.int .i64 r.x0) := rfl
  have e13 : r.cs[13]? = some (.int .i64 r.y0) := rfl
  have e14 : r.cs[14]? = some (.int .i64 r.x1) := rfl
  have e15 : r.cs[15]? = some (.int .i64 r.y1) := rfl
  have e16 : r.cs[16]? = some (.int .i64 r.til) := rfl
  have e17 : r.cs[17]? = some (.int .u64 (r.oth : Int)) := rfl
  have e18 : r.cs[18]? = some (.int .i64 r.k) := rfl
  have e19 : r.cs[19]? = some (.int .u64 (r.area : Int)) := rfl
  have e20 : r.cs[20]? = some (.int .i64 r.px) := rfl
  have e21 : r.cs[21]? = some (.int .i64 r.py) := rfl
  have e22 : r.cs[22]? = some (.int .i64 r.lab) := rfl
  have e23 : r.cs[23]? = some (.int .i64 r.fro) := rfl
  go_enter Try.func29, Try.ntmps29
  go_wp2_with fail
  go_ret
  exact ValP.mk (g := w.heap.size + 1 + 1) (L := [r.who, r.rights, r.til]) (by rfl) (by simp) (by omega) (Blk.newAt (by simp)) (by go_grown)
set_option maxRecDepth 100000 in
set_option maxHeartbeats 8000000 in
theorem rvals_5 (r : Rq) (w : World) (hop : r.op = 5) : Calls Try.prog 29 #[.agg r.cs] w fun e w' => ValP [r.rights, r.zoom, r.x0, r.y0, r.x1, r.y1, r.til] w e w' := by
  have e0 : r.cs[0]? = some (.int .i64 5) := by rw [← hop]; rfl
  have e1 : r.cs[1]? = some (.int .i64 r.ten) := rfl
  have e2 : r.cs[2]? = some (.int .i64 r.usr) := rfl
  have e3 : r.cs[3]? = some (.int .u64 (r.sec : Int)) := rfl
  have e4 : r.cs[4]? = some (.int .i64 r.m) := rfl
  have e5 : r.cs[5]? = some (.int .i64 r.who) := rfl
  have e6 : r.cs[6]? = some (.int .i64 r.role) := rfl
  have e7 : r.cs[7]? = some (.int .i64 r.tier) := rfl
  have e8 : r.cs[8]? = some (.int .i64 r.quota) := rfl
  have e9 : r.cs[9]? = some (.string (bs r.text)) := rfl
  have e10 : r.cs[10]? = some (.int .i64 r.rights) := rfl
  have e11 : r.cs[11]? = some (.int .i64 r.zoom) := rfl
  have e12 : r.cs[12]? = some (.int .i64 r.x0) := rfl
  have e13 : r.cs[13]? = some (.int .i64 r.y0) := rfl
  have e14 : r.cs[14]? = some (.int .i64 r.x1) := rfl
  have e15 : r.cs[15]? = some (.int .i64 r.y1) := rfl
  have e16 : r.cs[16]? = some (.int .i64 r.til) := rfl
  have e17 : r.cs[17]? = some (.int .u64 (r.oth : Int)) := rfl
  have e18 : r.cs[18]? = some (.int .i64 r.k) := rfl
  have e19 : r.cs[19]? = some (.int .u64 (r.area : Int)) := rfl
  have e20 : r.cs[20]? = some (.int .i64 r.px) := rfl
  have e21 : r.cs[21]? = some (.int .i64 r.py) := rfl
  have e22 : r.cs[22]? = some (.int .i64 r.lab) := rfl
  have e23 : r.cs[23]? = some (.int .i64 r.fro) := rfl
  go_enter Try.func29, Try.ntmps29
  go_wp2_with fail
  go_ret
  exact ValP.mk (g := w.heap.size + 1 + 1) (L := [r.rights, r.zoom, r.x0, r.y0, r.x1, r.y1, r.til]) (by rfl) (by simp) (by omega) (Blk.newAt (by simp)) (by go_grown)
set_option maxRecDepth 100000 in
set_option maxHeartbeats 8000000 in
theorem rvals_7 (r : Rq) (w : World) (hop : r.op = 7) : Calls Try.prog 29 #[.agg r.cs] w fun e w' => ValP [r.k] w e w' := by
  have e0 : r.cs[0]? = some (.int .i64 7) := by rw [← hop]; rfl
  have e1 : r.cs[1]? = some (.int .i64 r.ten) := rfl
  have e2 : r.cs[2]? = some (.int .i64 r.usr) := rfl
  have e3 : r.cs[3]? = some (.int .u64 (r.sec : Int)) := rfl
  have e4 : r.cs[4]? = some (.int .i64 r.m) := rfl
  have e5 : r.cs[5]? = some (.int .i64 r.who) := rfl
  have e6 : r.cs[6]? = some (.int .i64 r.role) := rfl
  have e7 : r.cs[7]? = some (.int .i64 r.tier) := rfl
  have e8 : r.cs[8]? = some (.int .i64 r.quota) := rfl
  have e9 : r.cs[9]? = some (.string (bs r.text)) := rfl
  have e10 : r.cs[10]? = some (.int .i64 r.rights) := rfl
  have e11 : r.cs[11]? = some (.int .i64 r.zoom) := rfl
  have e12 : r.cs[12]? = some (.int .i64 r.x0) := rfl
  have e13 : r.cs[13]? = some (.int .i64 r.y0) := rfl
  have e14 : r.cs[14]? = some (.int .i64 r.x1) := rfl
  have e15 : r.cs[15]? = some (.int .i64 r.y1) := rfl
  have e16 : r.cs[16]? = some (.int .i64 r.til) := rfl
  have e17 : r.cs[17]? = some (.int .u64 (r.oth : Int)) := rfl
  have e18 : r.cs[18]? = some (.int .i64 r.k) := rfl
  have e19 : r.cs[19]? = some (.int .u64 (r.area : Int)) := rfl
  have e20 : r.cs[20]? = some (.int .i64 r.px) := rfl
  have e21 : r.cs[21]? = some (.int .i64 r.py) := rfl
  have e22 : r.cs[22]? = some (.int .i64 r.lab) := rfl
  have e23 : r.cs[23]? = some (.int .i64 r.fro) := rfl
  go_enter Try.func29, Try.ntmps29
  go_wp2_with fail
  go_ret
  exact ValP.mk (g := w.heap.size + 1 + 1) (L := [r.k]) (by rfl) (by simp) (by omega) (Blk.newAt (by simp)) (by go_grown)
set_option maxRecDepth 100000 in
set_option maxHeartbeats 8000000 in
theorem rvals_8 (r : Rq) (w : World) (hop : r.op = 8) : Calls Try.prog 29 #[.agg r.cs] w fun e w' => ValP [r.px, r.py, r.lab] w e w' := by
  have e0 : r.cs[0]? = some (.int .i64 8) := by rw [← hop]; rfl
  have e1 : r.cs[1]? = some (.int .i64 r.ten) := rfl
  have e2 : r.cs[2]? = some (.int .i64 r.usr) := rfl
  have e3 : r.cs[3]? = some (.int .u64 (r.sec : Int)) := rfl
  have e4 : r.cs[4]? = some (.int .i64 r.m) := rfl
  have e5 : r.cs[5]? = some (.int .i64 r.who) := rfl
  have e6 : r.cs[6]? = some (.int .i64 r.role) := rfl
  have e7 : r.cs[7]? = some (.int .i64 r.tier) := rfl
  have e8 : r.cs[8]? = some (.int .i64 r.quota) := rfl
  have e9 : r.cs[9]? = some (.string (bs r.text)) := rfl
  have e10 : r.cs[10]? = some (.int .i64 r.rights) := rfl
  have e11 : r.cs[11]? = some (.int .i64 r.zoom) := rfl
  have e12 : r.cs[12]? = some (.int .i64 r.x0) := rfl
  have e13 : r.cs[13]? = some (.int .i64 r.y0) := rfl
  have e14 : r.cs[14]? = some (.int .i64 r.x1) := rfl
  have e15 : r.cs[15]? = some (.int .i64 r.y1) := rfl
  have e16 : r.cs[16]? = some (.int .i64 r.til) := rfl
  have e17 : r.cs[17]? = some (.int .u64 (r.oth : Int)) := rfl
  have e18 : r.cs[18]? = some (.int .i64 r.k) := rfl
  have e19 : r.cs[19]? = some (.int .u64 (r.area : Int)) := rfl
  have e20 : r.cs[20]? = some (.int .i64 r.px) := rfl
  have e21 : r.cs[21]? = some (.int .i64 r.py) := rfl
  have e22 : r.cs[22]? = some (.int .i64 r.lab) := rfl
  have e23 : r.cs[23]? = some (.int .i64 r.fro) := rfl
  go_enter Try.func29, Try.ntmps29
  go_wp2_with fail
  go_ret
  exact ValP.mk (g := w.heap.size + 1 + 1) (L := [r.px, r.py, r.lab]) (by rfl) (by simp) (by omega) (Blk.newAt (by simp)) (by go_grown)
set_option maxRecDepth 100000 in
set_option maxHeartbeats 8000000 in
theorem rvals_13 (r : Rq) (w : World) (hop : r.op = 13) : Calls Try.prog 29 #[.agg r.cs] w fun e w' => ValP [r.x0, r.y0, r.x1, r.y1] w e w' := by
  have e0 : r.cs[0]? = some (.int .i64 13) := by rw [← hop]; rfl
  have e1 : r.cs[1]? = some (.int .i64 r.ten) := rfl
  have e2 : r.cs[2]? = some (.int .i64 r.usr) := rfl
  have e3 : r.cs[3]? = some (.int .u64 (r.sec : Int)) := rfl
  have e4 : r.cs[4]? = some (.int .i64 r.m) := rfl
  have e5 : r.cs[5]? = some (.int .i64 r.who) := rfl
  have e6 : r.cs[6]? = some (.int .i64 r.role) := rfl
  have e7 : r.cs[7]? = some (.int .i64 r.tier) := rfl
  have e8 : r.cs[8]? = some (.int .i64 r.quota) := rfl
  have e9 : r.cs[9]? = some (.string (bs r.text)) := rfl
  have e10 : r.cs[10]? = some (.int .i64 r.rights) := rfl
  have e11 : r.cs[11]? = some (.int .i64 r.zoom) := rfl
  have e12 : r.cs[12]? = some (.int .i64 r.x0) := rfl
  have e13 : r.cs[13]? = some (.int .i64 r.y0) := rfl
  have e14 : r.cs[14]? = some (.int .i64 r.x1) := rfl
  have e15 : r.cs[15]? = some (.int .i64 r.y1) := rfl
  have e16 : r.cs[16]? = some (.int .i64 r.til) := rfl
  have e17 : r.cs[17]? = some (.int .u64 (r.oth : Int)) := rfl
  have e18 : r.cs[18]? = some (.int .i64 r.k) := rfl
  have e19 : r.cs[19]? = some (.int .u64 (r.area : Int)) := rfl
  have e20 : r.cs[20]? = some (.int .i64 r.px) := rfl
  have e21 : r.cs[21]? = some (.int .i64 r.py) := rfl
  have e22 : r.cs[22]? = some (.int .i64 r.lab) := rfl
  have e23 : r.cs[23]? = some (.int .i64 r.fro) := rfl
  go_enter Try.func29, Try.ntmps29
  go_wp2_with fail
  go_ret
  exact ValP.mk (g := w.heap.size + 1 + 1) (L := [r.x0, r.y0, r.x1, r.y1]) (by rfl) (by simp) (by omega) (Blk.newAt (by simp)) (by go_grown)
set_option maxRecDepth 100000 in
set_option maxHeartbeats 8000000 in
theorem rvals_14 (r : Rq) (w : World) (hop : r.op = 14) : Calls Try.prog 29 #[.agg r.cs] w fun e w' => ValP [r.px, r.py] w e w' := by
  have e0 : r.cs[0]? = some (.int .i64 14) := by rw [← hop]; rfl
  have e1 : r.cs[1]? = some (.int .i64 r.ten) := rfl
  have e2 : r.cs[2]? = some (.int .i64 r.usr) := rfl
  have e3 : r.cs[3]? = some (.int .u64 (r.sec : Int)) := rfl
  have e4 : r.cs[4]? = some (.int .i64 r.m) := rfl
  have e5 : r.cs[5]? = some (.int .i64 r.who) := rfl
  have e6 : r.cs[6]? = some (.int .i64 r.role) := rfl
  have e7 : r.cs[7]? = some (.int .i64 r.tier) := rfl
  have e8 : r.cs[8]? = some (.int .i64 r.quota) := rfl
  have e9 : r.cs[9]? = some (.string (bs r.text)) := rfl
  have e10 : r.cs[10]? = some (.int .i64 r.rights) := rfl
  have e11 : r.cs[11]? = some (.int .i64 r.zoom) := rfl
  have e12 : r.cs[12]? = some (.int .i64 r.x0) := rfl
  have e13 : r.cs[13]? = some (.int .i64 r.y0) := rfl
  have e14 : r.cs[14]? = some (.int .i64 r.x1) := rfl
  have e15 : r.cs[15]? = some (.int .i64 r.y1) := rfl
  have e16 : r.cs[16]? = some (.int .i64 r.til) := rfl
  have e17 : r.cs[17]? = some (.int .u64 (r.oth : Int)) := rfl
  have e18 : r.cs[18]? = some (.int .i64 r.k) := rfl
  have e19 : r.cs[19]? = some (.int .u64 (r.area : Int)) := rfl
  have e20 : r.cs[20]? = some (.int .i64 r.px) := rfl
  have e21 : r.cs[21]? = some (.int .i64 r.py) := rfl
  have e22 : r.cs[22]? = some (.int .i64 r.lab) := rfl
  have e23 : r.cs[23]? = some (.int .i64 r.fro) := rfl
  go_enter Try.func29, Try.ntmps29
  go_wp2_with fail
  go_ret
  exact ValP.mk (g := w.heap.size + 1 + 1) (L := [r.px, r.py]) (by rfl) (by simp) (by omega) (Blk.newAt (by simp)) (by go_grown)
set_option maxRecDepth 100000 in
set_option maxHeartbeats 8000000 in
theorem rvals_15 (r : Rq) (w : World) (hop : r.op = 15) : Calls Try.prog 29 #[.agg r.cs] w fun e w' => ValP [r.x0, r.y0, r.x1, r.y1] w e w' := by
  have e0 : r.cs[0]? = some (.int .i64 15) := by rw [← hop]; rfl
  have e1 : r.cs[1]? = some (.int .i64 r.ten) := rfl
  have e2 : r.cs[2]? = some (.int .i64 r.usr) := rfl
  have e3 : r.cs[3]? = some (.int .u64 (r.sec : Int)) := rfl
  have e4 : r.cs[4]? = some (.int .i64 r.m) := rfl
  have e5 : r.cs[5]? = some (.int .i64 r.who) := rfl
  have e6 : r.cs[6]? = some (.int .i64 r.role) := rfl
  have e7 : r.cs[7]? = some (.int .i64 r.tier) := rfl
  have e8 : r.cs[8]? = some (.int .i64 r.quota) := rfl
  have e9 : r.cs[9]? = some (.string (bs r.text)) := rfl
  have e10 : r.cs[10]? = some (.int .i64 r.rights) := rfl
  have e11 : r.cs[11]? = some (.int .i64 r.zoom) := rfl
  have e12 : r.cs[12]? = some (.int .i64 r.x0) := rfl
  have e13 : r.cs[13]? = some (.int .i64 r.y0) := rfl
  have e14 : r.cs[14]? = some (.int .i64 r.x1) := rfl
  have e15 : r.cs[15]? = some (.int .i64 r.y1) := rfl
  have e16 : r.cs[16]? = some (.int .i64 r.til) := rfl
  have e17 : r.cs[17]? = some (.int .u64 (r.oth : Int)) := rfl
  have e18 : r.cs[18]? = some (.int .i64 r.k) := rfl
  have e19 : r.cs[19]? = some (.int .u64 (r.area : Int)) := rfl
  have e20 : r.cs[20]? = some (.int .i64 r.px) := rfl
  have e21 : r.cs[21]? = some (.int .i64 r.py) := rfl
  have e22 : r.cs[22]? = some (.int .i64 r.lab) := rfl
  have e23 : r.cs[23]? = some (.int .i64 r.fro) := rfl
  go_enter Try.func29, Try.ntmps29
  go_wp2_with fail
  go_ret
  exact ValP.mk (g := w.heap.size + 1 + 1) (L := [r.x0, r.y0, r.x1, r.y1]) (by rfl) (by simp) (by omega) (Blk.newAt (by simp)) (by go_grown)
set_option maxRecDepth 100000 in
set_option maxHeartbeats 8000000 in
theorem rvals_16 (r : Rq) (w : World) (hop : r.op = 16) : Calls Try.prog 29 #[.agg r.cs] w fun e w' => ValP [r.px, r.py] w e w' := by
  have e0 : r.cs[0]? = some (.int .i64 16) := by rw [← hop]; rfl
  have e1 : r.cs[1]? = some (.int .i64 r.ten) := rfl
  have e2 : r.cs[2]? = some (.int .i64 r.usr) := rfl
  have e3 : r.cs[3]? = some (.int .u64 (r.sec : Int)) := rfl
  have e4 : r.cs[4]? = some (.int .i64 r.m) := rfl
  have e5 : r.cs[5]? = some (.int .i64 r.who) := rfl
  have e6 : r.cs[6]? = some (.int .i64 r.role) := rfl
  have e7 : r.cs[7]? = some (.int .i64 r.tier) := rfl
  have e8 : r.cs[8]? = some (.int .i64 r.quota) := rfl
  have e9 : r.cs[9]? = some (.string (bs r.text)) := rfl
  have e10 : r.cs[10]? = some (.int .i64 r.rights) := rfl
  have e11 : r.cs[11]? = some (.int .i64 r.zoom) := rfl
  have e12 : r.cs[12]? = some (.int .i64 r.x0) := rfl
  have e13 : r.cs[13]? = some (.int .i64 r.y0) := rfl
  have e14 : r.cs[14]? = some (.int .i64 r.x1) := rfl
  have e15 : r.cs[15]? = some (.int .i64 r.y1) := rfl
  have e16 : r.cs[16]? = some (.int .i64 r.til) := rfl
  have e17 : r.cs[17]? = some (.int .u64 (r.oth : Int)) := rfl
  have e18 : r.cs[18]? = some (.int .i64 r.k) := rfl
  have e19 : r.cs[19]? = some (.int .u64 (r.area : Int)) := rfl
  have e20 : r.cs[20]? = some (.int .i64 r.px) := rfl
  have e21 : r.cs[21]? = some (.int .i64 r.py) := rfl
  have e22 : r.cs[22]? = some (.int .i64 r.lab) := rfl
  have e23 : r.cs[23]? = some (.int .i64 r.fro) := rfl
  go_enter Try.func29, Try.ntmps29
  go_wp2_with fail
  go_ret
  exact ValP.mk (g := w.heap.size + 1 + 1) (L := [r.px, r.py]) (by rfl) (by simp) (by omega) (Blk.newAt (by simp)) (by go_grown)
set_option maxRecDepth 100000 in
set_option maxHeartbeats 8000000 in
theorem rvals_17 (r : Rq) (w : World) (hop : r.op = 17) : Calls Try.prog 29 #[.agg r.cs] w fun e w' => ValP [r.fro] w e w' := by
  have e0 : r.cs[0]? = some (.int .i64 17) := by rw [← hop]; rfl
  have e1 : r.cs[1]? = some (.int .i64 r.ten) := rfl
  have e2 : r.cs[2]? = some (.int .i64 r.usr) := rfl
  have e3 : r.cs[3]? = some (.int .u64 (r.sec : Int)) := rfl
  have e4 : r.cs[4]? = some (.int .i64 r.m) := rfl
  have e5 : r.cs[5]? = some (.int .i64 r.who) := rfl
  have e6 : r.cs[6]? = some (.int .i64 r.role) := rfl
  have e7 : r.cs[7]? = some (.int .i64 r.tier) := rfl
  have e8 : r.cs[8]? = some (.int .i64 r.quota) := rfl
  have e9 : r.cs[9]? = some (.string (bs r.text)) := rfl
  have e10 : r.cs[10]? = some (.int .i64 r.rights) := rfl
  have e11 : r.cs[11]? = some (.int .i64 r.zoom) := rfl
  have e12 : r.cs[12]? = some (.int .i64 r.x0) := rfl
  have e13 : r.cs[13]? = some (.int .i64 r.y0) := rfl
  have e14 : r.cs[14]? = some (.int .i64 r.x1) := rfl
  have e15 : r.cs[15]? = some (.int .i64 r.y1) := rfl
  have e16 : r.cs[16]? = some (.int .i64 r.til) := rfl
  have e17 : r.cs[17]? = some (.int .u64 (r.oth : Int)) := rfl
  have e18 : r.cs[18]? = some (.int .i64 r.k) := rfl
  have e19 : r.cs[19]? = some (.int .u64 (r.area : Int)) := rfl
  have e20 : r.cs[20]? = some (.int .i64 r.px) := rfl
  have e21 : r.cs[21]? = some (.int .i64 r.py) := rfl
  have e22 : r.cs[22]? = some (.int .i64 r.lab) := rfl
  have e23 : r.cs[23]? = some (.int .i64 r.fro) := rfl
  go_enter Try.func29, Try.ntmps29
  go_wp2_with fail
  go_ret
  exact ValP.mk (g := w.heap.size + 1 + 1) (L := [r.fro]) (by rfl) (by simp) (by omega) (Blk.newAt (by simp)) (by go_grown)
set_option maxRecDepth 100000 in
set_option maxHeartbeats 8000000 in
theorem rvals_19 (r : Rq) (w : World) (hop : r.op = 19) : Calls Try.prog 29 #[.agg r.cs] w fun e w' => ValP [r.who, r.quota] w e w' := by
  have e0 : r.cs[0]? = some (.int .i64 19) := by rw [← hop]; rfl
  have e1 : r.cs[1]? = some (.int .i64 r.ten) := rfl
  have e2 : r.cs[2]? = some (.int .i64 r.usr) := rfl
  have e3 : r.cs[3]? = some (.int .u64 (r.sec : Int)) := rfl
  have e4 : r.cs[4]? = some (.int .i64 r.m) := rfl
  have e5 : r.cs[5]? = some (.int .i64 r.who) := rfl
  have e6 : r.cs[6]? = some (.int .i64 r.role) := rfl
  have e7 : r.cs[7]? = some (.int .i64 r.tier) := rfl
  have e8 : r.cs[8]? = some (.int .i64 r.quota) := rfl
  have e9 : r.cs[9]? = some (.string (bs r.text)) := rfl
  have e10 : r.cs[10]? = some (.int .i64 r.rights) := rfl
  have e11 : r.cs[11]? = some (.int .i64 r.zoom) := rfl
  have e12 : r.cs[12]? = some (.int .i64 r.x0) := rfl
  have e13 : r.cs[13]? = some (.int .i64 r.y0) := rfl
  have e14 : r.cs[14]? = some (.int .i64 r.x1) := rfl
  have e15 : r.cs[15]? = some (.int .i64 r.y1) := rfl
  have e16 : r.cs[16]? = some (.int .i64 r.til) := rfl
  have e17 : r.cs[17]? = some (.int .u64 (r.oth : Int)) := rfl
  have e18 : r.cs[18]? = some (.int .i64 r.k) := rfl
  have e19 : r.cs[19]? = some (.int .u64 (r.area : Int)) := rfl
  have e20 : r.cs[20]? = some (.int .i64 r.px) := rfl
  have e21 : r.cs[21]? = some (.int .i64 r.py) := rfl
  have e22 : r.cs[22]? = some (.int .i64 r.lab) := rfl
  have e23 : r.cs[23]? = some (.int .i64 r.fro) := rfl
  go_enter Try.func29, Try.ntmps29
  go_wp2_with fail
  go_ret
  exact ValP.mk (g := w.heap.size + 1 + 1) (L := [r.who, r.quota]) (by rfl) (by simp) (by omega) (Blk.newAt (by simp)) (by go_grown)
set_option maxRecDepth 100000 in
set_option maxHeartbeats 8000000 in
theorem rvals_none (r : Rq) (w : World) (h1 : r.op ≠ 1) (h2 : r.op ≠ 2) (h4 : r.op ≠ 4) (h5 : r.op ≠ 5) (h7 : r.op ≠ 7) (h8 : r.op ≠ 8) (h13 : r.op ≠ 13) (h14 : r.op ≠ 14) (h15 : r.op ≠ 15) (h16 : r.op ≠ 16) (h17 : r.op ≠ 17) (h19 : r.op ≠ 19) : Calls Try.prog 29 #[.agg r.cs] w fun e w' => ValP [] w e w' := by
  have e0 : r.cs[0]? = some (.int .i64 r.op) := rfl
  have e1 : r.cs[1]? = some (.int .i64 r.ten) := rfl
  have e2 : r.cs[2]? = some (.int .i64 r.usr) := rfl
  have e3 : r.cs[3]? = some (.int .u64 (r.sec : Int)) := rfl
  have e4 : r.cs[4]? = some (.int .i64 r.m) := rfl
  have e5 : r.cs[5]? = some (.int .i64 r.who) := rfl
  have e6 : r.cs[6]? = some (.int .i64 r.role) := rfl
  have e7 : r.cs[7]? = some (.int .i64 r.tier) := rfl
  have e8 : r.cs[8]? = some (.int .i64 r.quota) := rfl
  have e9 : r.cs[9]? = some (.string (bs r.text)) := rfl
  have e10 : r.cs[10]? = some (.int .i64 r.rights) := rfl
  have e11 : r.cs[11]? = some (.int .i64 r.zoom) := rfl
  have e12 : r.cs[12]? = some (.int .i64 r.x0) := rfl
  have e13 : r.cs[13]? = some (.int .i64 r.y0) := rfl
  have e14 : r.cs[14]? = some (.int .i64 r.x1) := rfl
  have e15 : r.cs[15]? = some (.int .i64 r.y1) := rfl
  have e16 : r.cs[16]? = some (.int .i64 r.til) := rfl
  have e17 : r.cs[17]? = some (.int .u64 (r.oth : Int)) := rfl
  have e18 : r.cs[18]? = some (.int .i64 r.k) := rfl
  have e19 : r.cs[19]? = some (.int .u64 (r.area : Int)) := rfl
  have e20 : r.cs[20]? = some (.int .i64 r.px) := rfl
  have e21 : r.cs[21]? = some (.int .i64 r.py) := rfl
  have e22 : r.cs[22]? = some (.int .i64 r.lab) := rfl
  have e23 : r.cs[23]? = some (.int .i64 r.fro) := rfl
  have b1 : (r.op == 1) = false := beq_eq_false_iff_ne.2 h1
  have b2 : (r.op == 2) = false := beq_eq_false_iff_ne.2 h2
  have b4 : (r.op == 4) = false := beq_eq_false_iff_ne.2 h4
  have b5 : (r.op == 5) = false := beq_eq_false_iff_ne.2 h5
  have b7 : (r.op == 7) = false := beq_eq_false_iff_ne.2 h7
  have b8 : (r.op == 8) = false := beq_eq_false_iff_ne.2 h8
  have b13 : (r.op == 13) = false := beq_eq_false_iff_ne.2 h13
  have b14 : (r.op == 14) = false := beq_eq_false_iff_ne.2 h14
  have b15 : (r.op == 15) = false := beq_eq_false_iff_ne.2 h15
  have b16 : (r.op == 16) = false := beq_eq_false_iff_ne.2 h16
  have b17 : (r.op == 17) = false := beq_eq_false_iff_ne.2 h17
  have b19 : (r.op == 19) = false := beq_eq_false_iff_ne.2 h19
  go_enter Try.func29, Try.ntmps29
  go_wp2_with fail
  go_ret
  exact ValP.mk (g := w.heap.size + 1 + 1) (L := []) (by rfl) (by simp) (by omega) (Blk.newAt (by simp)) (by go_grown)
theorem rvals_any (r : Rq) (w : World) : Calls Try.prog 29 #[.agg r.cs] w fun e w' => ValP (valsN r) w e w' := by
  unfold valsN
  by_cases h1 : r.op = 1
  · rw [if_pos h1]; exact rvals_1 r w h1
  rw [if_neg h1]
  by_cases h2 : r.op = 2
  · rw [if_pos h2]; exact rvals_2 r w h2
  rw [if_neg h2]
  by_cases h4 : r.op = 4
  · rw [if_pos h4]; exact rvals_4 r w h4
  rw [if_neg h4]
  by_cases h5 : r.op = 5
  · rw [if_pos h5]; exact rvals_5 r w h5
  rw [if_neg h5]
  by_cases h7 : r.op = 7
  · rw [if_pos h7]; exact rvals_7 r w h7
  rw [if_neg h7]
  by_cases h8 : r.op = 8
  · rw [if_pos h8]; exact rvals_8 r w h8
  rw [if_neg h8]
  by_cases h13 : r.op = 13
  · rw [if_pos h13]; exact rvals_13 r w h13
  rw [if_neg h13]
  by_cases h14 : r.op = 14
  · rw [if_pos h14]; exact rvals_14 r w h14
  rw [if_neg h14]
  by_cases h15 : r.op = 15
  · rw [if_pos h15]; exact rvals_15 r w h15
  rw [if_neg h15]
  by_cases h16 : r.op = 16
  · rw [if_pos h16]; exact rvals_16 r w h16
  rw [if_neg h16]
  by_cases h17 : r.op = 17
  · rw [if_pos h17]; exact rvals_17 r w h17
  rw [if_neg h17]
  by_cases h19 : r.op = 19
  · rw [if_pos h19]; exact rvals_19 r w h19
  rw [if_neg h19]
  exact rvals_none r w h1 h2 h4 h5 h7 h8 h13 h14 h15 h16 h17 h19
end
end Go.Proofs.Ythlmldbgohnpnaa
