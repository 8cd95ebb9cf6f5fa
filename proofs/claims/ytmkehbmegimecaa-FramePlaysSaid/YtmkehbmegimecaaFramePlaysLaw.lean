/- FramePlays: (P5.1, P5.2, P5.3, P5.6) whatever is done with a buffer, step by step it tells what the document says, and no more waits than there is room. Conditions: none. -/
import Derived.Test.YtmkehbmegimecaaFrameKnown
import Derived.Test.YtmkehbmegimecaaFrame
import Derived.Lib.SmallJoins
import Derived.Test.YtmkehbmegimecaaFrameU
import Derived.Deep.DeepCutAuto
import Derived.Test.YtmkehbmegimecaaSl
namespace Go.Proofs.Ytmkehbmegimecaa.framePlays
set_option linter.unusedVariables false
set_option linter.unusedSimpArgs false
open Go.ChangeShapes Go.WideShapes Go.ChangeAt Go.RowKit
open Go.ChangeMaps (open_string shut_string)
/-- An operation: its kind, its bytes. -/
def OpOk (w : World) (cs : List Value) : Prop := ∃ (kd : Int) (A : Option Addr) (L C : Nat) (l : List UInt8), cs = [.int .i64 kd, .slice A L C] ∧ RB w A L l ∧ L ≤ C ∧ C ≤ maxLen ∧ L ≤ reachBytes
theorem opOk_of {H : Type} {enc : TypeId × Value → H} {w : World} {sp : Nat → Bool} {hd : Bool} : ∀ fuel cs (y : DataW H × List MemPlace), DataW.trod enc Try.prog w 0 sp hd fuel 32 cs = some y → (∀ m ∈ y.1.weights Try.prog 32, m ≤ reachBytes) → OpOk w cs := by
  intro fuel cs y h hsz
  obtain ⟨_, _, _, _, hl, _, _⟩ := DataW.trod_struct Try.underlying32 h
  have hC : Try.prog.cellsOf 32 = 2 := by kernel_rfl
  rw [hC] at hl
  obtain ⟨kd, h0, _⟩ := leaf_int (o := 0) (u := 3) (by kernel_rfl) Try.underlying3 h
  obtain ⟨A, L, C, l, h1, h2, h3, h4, h5⟩ := leaf_bytes (o := 1) (u := 28) (by kernel_rfl) Try.underlying28 Try.underlying5 (by kernel_rfl) (by kernel_rfl) h hsz
  match cs, hl with
  | [a, b], _ =>
    simp at h0 h1
    subst h0; subst h1
    exact ⟨kd, A, L, C, l, rfl, h2, h3, h4, h5⟩
theorem cell_alloc {w : World} {a : Addr} {v : Value} (h : w.cell? a = some v) (o : Obj) : (w.alloc o).cell? a = some v := cell_later ((Below.refl _ _).alloc (Nat.le_refl _) _) h
theorem new_cell (w : World) (cs : Array Value) (t : TypeId) (i : Nat) {v : Value} (h : cs[i]? = some v) : (w.alloc (.cells cs t)).cell? ⟨w.heap.size, i, none⟩ = some v := by rw [(Blk.new w t cs).cell]; exact h
theorem new_frozen (w : World) (cs : Array Value) (t : TypeId) (i : Nat) : (w.alloc (.cells cs t)).frozen? ⟨w.heap.size, i, none⟩ = false := (Blk.new w t cs).frozen i
theorem new_cell_d (w : World) (cs : Array Value) (t : TypeId) (i : Nat) {v : Value} (h : cs[i]? = some v) : (w.alloc (.cells cs t)).drew.cell? ⟨w.heap.size, i, none⟩ = some v := new_cell w cs t i h
theorem new_frozen_d (w : World) (cs : Array Value) (t : TypeId) (i : Nat) : (w.alloc (.cells cs t)).drew.frozen? ⟨w.heap.size, i, none⟩ = false := new_frozen w cs t i
/-- What the document's Feed leaves, called in the law: c lies in a new block. -/
def FCut (A : Option Addr) (room : Int) (ok : Bool) (l' : List UInt8) (ov' : Nat) (wr : World) (s9 s10 : Value) (wx : World) : Prop :=
  ∃ g A' c', s9 = .pointer (some ⟨g, 0, none⟩) ∧ s10 = .bool ok ∧ Blk wx g 30 #[.int .i64 room, .slice A' l'.length c', .int .i64 (ov' : Int)] ∧ RB wx A' l'.length l' ∧ l'.length ≤ c' ∧ Below wr.heap.size wr wx ∧ wr.heap.size ≤ g ∧ (∀ h, A'.map (·.block) = some h → h ≠ g ∧ h < wx.heap.size ∧ (wr.heap.size ≤ h ∨ A.map (·.block) = some h))
theorem fcut_one {R A9 : Option Addr} {room : Int} {ok : Bool} {l2 : List UInt8} {ov2 c9 rb : Nat} {wr w9 : World} {A : Option Addr} (hA9 : RB w9 A9 l2.length l2) (hc9 : l2.length ≤ c9) (hb9 : Below wr.drew.heap.size wr.drew w9)
    (hl9 : ∀ g, A9.map (·.block) = some g → (wr.drew.heap.size ≤ g ∧ g < w9.heap.size) ∨ R.map (·.block) = some g) (hR : ∀ g, R.map (·.block) = some g → rb < g ∧ g < wr.heap.size ∧ A.map (·.block) ≠ some g) :
    FCut R room ok l2 ov2 wr (.pointer (some ⟨w9.heap.size, 0, none⟩)) (.bool ok) (w9.alloc (.cells #[.int .i64 room, .slice A9 l2.length c9, .int .i64 (ov2 : Int)] 30)) := by
  have hz : wr.heap.size ≤ w9.heap.size := (drew_below hb9).size
  refine ⟨_, A9, c9, rfl, rfl, Blk.new _ _ _, RB.alloc hA9 _, hc9, (drew_below hb9).alloc hz _, hz, fun h hh => ?_⟩
  rcases hl9 h hh with ⟨h1, h2⟩ | h1
  · exact ⟨by omega, by simp; omega, .inl h1⟩
  · have := hR h h1
    exact ⟨by omega, by simp; omega, .inr h1⟩
theorem fcut_two {R A9 : Option Addr} {room : Int} {ok : Bool} {l2 : List UInt8} {ov2 c9 rb : Nat} {wr w9 : World} {A : Option Addr} (hA9 : RB w9 A9 l2.length l2) (hc9 : l2.length ≤ c9) {x y z : Value} (hb9 : Below (wr.alloc (.cells #[x, y, z] 30)).drew.heap.size (wr.alloc (.cells #[x, y, z] 30)).drew w9)
    (hl9 : ∀ g, A9.map (·.block) = some g → ((wr.alloc (.cells #[x, y, z] 30)).drew.heap.size ≤ g ∧ g < w9.heap.size) ∨ R.map (·.block) = some g) (hR : ∀ g, R.map (·.block) = some g → rb < g ∧ g < wr.heap.size ∧ A.map (·.block) ≠ some g) :
    FCut R room ok l2 ov2 wr (.pointer (some ⟨wr.heap.size, 0, none⟩)) (.bool ok) (((w9.setCell ⟨wr.heap.size, 0, none⟩ (.int .i64 room)).setCell ⟨wr.heap.size, 1, none⟩ (.slice A9 l2.length c9)).setCell ⟨wr.heap.size, 2, none⟩ (.int .i64 (ov2 : Int))) := by
  have hb := drew_below hb9
  have hz := hb.size
  simp at hz
  have hk : Blk w9 wr.heap.size 30 #[x, y, z] := (Blk.new wr _ _).below hb (by simp)
  have hl : ∀ g, A9.map (·.block) = some g → g ≠ wr.heap.size ∧ g < w9.heap.size ∧ (wr.heap.size ≤ g ∨ R.map (·.block) = some g) := fun g hg => by
    rcases hl9 g hg with ⟨h1, h2⟩ | h1
    · simp at h1; exact ⟨by omega, h2, .inl (by omega)⟩
    · have := hR g h1
      exact ⟨by omega, by omega, .inr h1⟩
  have hB : Below wr.heap.size wr w9 := Below.trans (by go_grown) (hb.mono (by simp))
  refine ⟨_, A9, c9, rfl, rfl, hk.set3 _ _ _, RB.far3 hA9 (fun _ e => (hl _ e).1 rfl) _ _ _, hc9, by go_grown, Nat.le_refl _, fun h hh => ?_⟩
  have := hl h hh
  exact ⟨this.1, by simpa using this.2.1, this.2.2⟩
theorem RB.kept {w w' : World} {A : Option Addr} {n : Nat} {l : List UInt8} (h : RB w A n l) (hz : w.heap.size ≤ w'.heap.size) (hk : ∀ g, 0 < n → A.map (·.block) = some g → g < w.heap.size → w'.heap[g]? = w.heap[g]?) : RB w' A n l := by
  refine ⟨h.1, fun hn => ?_⟩
  obtain ⟨ad, rfl, hl, hc⟩ := h.2 hn
  refine ⟨ad, rfl, by omega, fun j u hu => ?_⟩
  rw [World.cell?_of_block (w := w) (hk _ hn (by simp [block_of_add]) (by simpa [block_of_add] using hl))]
  exact hc j u hu
theorem Wt.far3 {w : World} {A : Option Addr} {n cap g : Nat} {l : List UInt8} (h : Wt w A n cap l) (hne : A.map (·.block) ≠ some g) (a b c : Value) : Wt (((w.setCell ⟨g, 0, none⟩ a).setCell ⟨g, 1, none⟩ b).setCell ⟨g, 2, none⟩ c) A n cap l :=
  ((h.far (p := ⟨g, 0, none⟩) hne a).far (p := ⟨g, 1, none⟩) hne b).far (p := ⟨g, 2, none⟩) hne c
theorem far_new {w : World} {B : Option Addr} {m : Nat} {l : List UInt8} {p : Nat} (h : RB w B m l) (hp : w.heap.size ≤ p) : 0 < m → B.map (·.block) ≠ some p := fun h0 => by
  obtain ⟨ad, rfl, hlt, _⟩ := h.2 h0
  simp; omega
def Rel (w : World) (room : Int) (rb : Nat) (wr : World) : Prop :=
  ∃ (n cap c ov : Nat) (A R : Option Addr) (l : List UInt8), Below w.heap.size w wr ∧ Blk wr w.heap.size 58 #[.int .i64 room, .slice A n cap, .int .i64 (ov : Int)] ∧ Wt wr A n cap l ∧
    Blk wr rb 30 #[.int .i64 room, .slice R n c, .int .i64 (ov : Int)] ∧ RB wr R n l ∧ n ≤ c ∧ (n : Int) ≤ room ∧ ov ≤ 65535 ∧ (0 < n → ov = 0) ∧
    (∀ g, A.map (·.block) = some g → w.heap.size ≤ g) ∧ (∀ g, R.map (·.block) = some g → rb < g ∧ g < wr.heap.size ∧ A.map (·.block) ≠ some g)
set_option maxRecDepth 100000 in
set_option maxHeartbeats 4000000 in
theorem walk (room : Int) (a : Option Addr) (len cap0 : Nat) (w : World) (hr9 : -9223372036854775808 ≤ room ∧ room ≤ 9223372036854775807) (h : IsSl w 2 (OpOk w) a len cap0) : Calls Try.prog 3 #[.int .i64 room, .slice a len cap0] w fun e w' => e = .returned (.bool true) ∧ Below w.heap.size w w' := by
  by_cases hbad : room < 602 ∨ 4096 < room
  · rcases hbad with hb | hb
    · go_enter Try.func3, Try.ntmps3
      go_wp2_with fail
      refine (new_no room (.inl hb) _).mono ?_
      rintro e w1 ⟨rfl, rfl⟩
      go_wp2_with fail
      refine (known_any _).mono ?_
      rintro e w9 ⟨rfl, hb9⟩
      go_wp2
      go_ret
      exact ⟨rfl, hb9⟩
    · have hb2 : ¬ room < 602 := by omega
      go_enter Try.func3, Try.ntmps3
      go_wp2_with fail
      refine (new_no room (.inr hb) _).mono ?_
      rintro e w1 ⟨rfl, rfl⟩
      go_wp2_with fail
      refine (known_any _).mono ?_
      rintro e w9 ⟨rfl, hb9⟩
      go_wp2
      go_ret
      exact ⟨rfl, hb9⟩
  · have hr1 : 602 ≤ room := by omega
    have hr2 : room ≤ 4096 := by omega
    have hr3 : ¬ room < 602 := by omega
    have hr4 : ¬ 4096 < room := by omega
    have HS := Lib.hid h; have hlc := h.le; clear h hbad
    obtain ⟨hlc1, hlc2⟩ := hlc
    unfold maxLen at hlc2
    go_enter Try.func3, Try.ntmps3
    go_wp2_with fail
    refine (new_yes room hr1 hr2 w).mono ?_
    rintro e w1 ⟨rfl, hw1⟩
    have hp1 : Blk w1 w.heap.size 58 #[.int .i64 room, .slice none 0 0, .int .i64 0] := by rw [← hw1]; exact Blk.new _ _ _
    have hB1 : Below w.heap.size w w1 := by rw [← hw1]; go_grown
    have hz1 : w1.heap.size = w.heap.size + 1 := by rw [← hw1]; simp
    have HZ1 := Lib.hid hz1
    clear hw1 hz1
    go_wp2
    have hrb : w.heap.size < w1.heap.size := hp1.lt
    have hst : Rel w room w1.heap.size (w1.alloc (.cells #[.int .i64 room, .slice none 0 0, .int .i64 0] 30)) :=
      ⟨0, 0, 0, 0, none, none, [], hB1.alloc (by omega) _, hp1.alloc _, Wt.nil_ _, Blk.new _ _ _, RB.nil_ _, Nat.le_refl _, by omega, by omega, fun h => by omega, fun g hg => by simp at hg, fun g hg => by simp at hg⟩
    clear hp1 hB1
    generalize (w1.alloc (.cells #[.int .i64 room, .slice none 0 0, .int .i64 0] 30)) = W1 at hst ⊢
    generalize w1.heap.size = rb at *
    have HST := Lib.hid hst; clear hst
    go_loopw [8] (fun i wr => ∃ k : Nat, k ≤ len ∧ i = .int .i64 k ∧ Hid (Rel w room rb wr)) (fun i _ => len - (intOf i).toNat)
    case atStart => exact ⟨0, Nat.zero_le _, rfl, HST⟩
    case round =>
      clear HST
      obtain ⟨k, hk, rfl, hrel⟩ := hrel
      by_cases hlt : k < len ∧ k < 200
      · obtain ⟨hlt, h200⟩ := hlt
        have hki : (k : Int) < (len : Int) := by omega
        have hk2 : (k : Int) < 200 := by omega
        obtain ⟨xb, xo, cs, rfl, hcl, hcell, kd, B, m, d, news, rfl, hyb, hmd, hdm, hmr⟩ := HS.out.at2 k hlt (by omega)
        have kc0 : w.cell? ⟨xb, xo + k * 2, none⟩ = some (.int .i64 kd) := hcell 0 _ rfl
        have kc1 : w.cell? ⟨xb, xo + k * 2 + 1, none⟩ = some (.slice B m d) := hcell 1 _ rfl
        obtain ⟨n, cap, c, ov, A, R, l, hB, hp, ht, hq, hx, hnc, hnr, hov, hn0, hA, hR⟩ := hrel.out
        clear hrel hcell
        have kd0 := cell_later hB kc0
        have kd1 := cell_later hB kc1
        have hmx : m ≤ 4611686018427387904 := by unfold reachBytes at hmr; omega
        clear kc0 hcl
        have K0 := hq.cell 0
        have K1 := hq.cell 1
        have K2 := hq.cell 2
        simp only [List.getElem?_toArray, List.getElem?_cons_zero, List.getElem?_cons_succ] at K0 K1 K2
        have z0 := World.new_ne wr _ K0
        have z1 := World.new_ne wr _ kd1
        have hyw := hyb.later hB
        have HX := Lib.hid hx; have HY := Lib.hid hyw; have HYB := Lib.hid hyb; have HA := Lib.hid hA; have HR := Lib.hid hR; have HN0 := Lib.hid hn0; have HP := Lib.hid hp; have HT := Lib.hid ht; have HQ := Lib.hid hq
        clear hx hyw hyb hA hR hn0 hp ht hq
        by_cases hkd : kd = 0
        · subst hkd
          have hfd := fd_facts (room := room) (ov := ov) HX.out.len HY.out.len hnr hov HN0.out
          have HRF := fun (X : World) (h1 : RB X R n l) (h2 : RB X B m news) => rfeed_u R B n c m d ov room l news X h1 hnc h2 hmd (by omega) (by omega) (by omega) (by omega) hov
          have HFD := fun (X : World) (h1 : Blk X w.heap.size 58 #[.int .i64 room, .slice A n cap, .int .i64 (ov : Int)]) (h2 : Wt X A n cap l) (h3 : RB X B m news) (h4 : 0 < m → B.map (·.block) ≠ some w.heap.size) => feed_u w.heap.size n cap m d ov A B room l news X h1 h2 h3 hmd (by omega) hnr hr2 hov h4
          generalize fdOv (fdOk room n ov m) ov m = ov2 at *
          generalize fdL (fdOk room n ov m) l news ov m = l2 at *
          generalize fdOk room n ov m = ok at *
          have HRFE := Lib.hid HRF; have HFDE := Lib.hid HFD; clear HRF HFD
          obtain ⟨hfd1, hfd2, hfd3⟩ := hfd
          have HFD3 := Lib.hid hfd3; clear hfd3
          go_upto_region 11 with fail
          go_cut [9, 10] (fun s9 s10 wx => FCut R room ok l2 ov2 wr s9 s10 wx)
          case first =>
            go_region_held3 (fun w' => w'.cell? ⟨rb, 0, none⟩ = some (.int .i64 room) ∧ w'.cell? ⟨rb, 1, none⟩ = some (.slice R n c) ∧ w'.cell? ⟨rb, 2, none⟩ = some (.int .i64 (ov : Int)) ∧ w'.cell? ⟨xb, xo + k * 2 + 1, none⟩ = some (.slice B m d)) (first | (refine ⟨?_, ?_, ?_, ?_⟩ <;> first | (with_reducible assumption) | (exact cell_alloc (by assumption) _) | go_keep) | (go_split_ands; refine ⟨?_, ?_, ?_, ?_⟩ <;> first | (with_reducible assumption) | (exact cell_alloc (by assumption) _) | go_keep))
              ((go_at_call 10; refine (HRFE.out _ (by first | exact HX.out | exact RB.drawn HX.out 1 | exact RB.drawn (RB.alloc HX.out _) 1) (by first | exact HY.out | exact RB.drawn HY.out 1 | exact RB.drawn (RB.alloc HY.out _) 1)).mono ?_; rintro e w9 ⟨A9, c9, rfl, hA9, hc9, hb9, hl9⟩; have s0 : w9.cell? ⟨rb, 0, none⟩ = some (.int .i64 room) := (by first | exact cell_later hb9 K0 | exact cell_later hb9 (cell_alloc K0 _)); have s1 : w9.cell? ⟨rb, 1, none⟩ = some (.slice R n c) := (by first | exact cell_later hb9 K1 | exact cell_later hb9 (cell_alloc K1 _)); have s2 : w9.cell? ⟨rb, 2, none⟩ = some (.int .i64 (ov : Int)) := (by first | exact cell_later hb9 K2 | exact cell_later hb9 (cell_alloc K2 _)); have s3 : w9.cell? ⟨xb, xo + k * 2 + 1, none⟩ = some (.slice B m d) := (by first | exact cell_later hb9 kd1 | exact cell_later hb9 (cell_alloc kd1 _)); have hz9 := hb9.size; (try simp at hz9); (try have n0 : w9.cell? ⟨wr.heap.size, 0, none⟩ = some (.int .i64 0) := (by first | exact cell_later hb9 (new_cell_d wr _ _ 0 rfl) | exact cell_later hb9 (new_cell wr _ _ 0 rfl))); (try have m0 : w9.frozen? ⟨wr.heap.size, 0, none⟩ = false := (by first | exact frozen_later hb9 (new_cell_d wr _ _ 0 rfl) (new_frozen_d wr _ _ 0) | exact frozen_later hb9 (new_cell wr _ _ 0 rfl) (new_frozen wr _ _ 0))); (try have n1 : w9.cell? ⟨wr.heap.size, 1, none⟩ = some (.slice none 0 0) := (by first | exact cell_later hb9 (new_cell_d wr _ _ 1 rfl) | exact cell_later hb9 (new_cell wr _ _ 1 rfl))); (try have m1 : w9.frozen? ⟨wr.heap.size, 1, none⟩ = false := (by first | exact frozen_later hb9 (new_cell_d wr _ _ 1 rfl) (new_frozen_d wr _ _ 1) | exact frozen_later hb9 (new_cell wr _ _ 1 rfl) (new_frozen wr _ _ 1))); (try have n2 : w9.cell? ⟨wr.heap.size, 2, none⟩ = some (.int .i64 0) := (by first | exact cell_later hb9 (new_cell_d wr _ _ 2 rfl) | exact cell_later hb9 (new_cell wr _ _ 2 rfl))); (try have m2 : w9.frozen? ⟨wr.heap.size, 2, none⟩ = false := (by first | exact frozen_later hb9 (new_cell_d wr _ _ 2 rfl) (new_frozen_d wr _ _ 2) | exact frozen_later hb9 (new_cell wr _ _ 2 rfl) (new_frozen wr _ _ 2)))))
            all_goals
              go_wp2_with fail
              go_meet
              first
                | exact fcut_one hA9 hc9 hb9 hl9 HR.out
                | exact fcut_two hA9 hc9 hb9 hl9 HR.out
          case rest =>
            obtain ⟨g, A9, c9, rfl, rfl, hcb, hR9, hcl9, hb9, hg9, hl9⟩ := hcut
            have hB9 := below_trans hB hb9
            have kd9 := cell_later hb9 kd1
            have hpl := HP.out.lt
            have hql := HQ.out.lt
            have HAl := Lib.hid (fun (h : Nat) (hh : A.map (·.block) = some h) => HT.out.lt hh)
            have HAq := Lib.hid (HT.out.ne HQ.out (by decide))
            have HP9 := Lib.hid (HP.out.below hb9 hpl)
            have HT9 := Lib.hid (HT.out.below hb9)
            have HQ9 := Lib.hid (HQ.out.below hb9 hql)
            have HY9 := Lib.hid (HYB.out.later hB9)
            have HCB := Lib.hid hcb; have HR9 := Lib.hid hR9; have HL9 := Lib.hid hl9; have HZ9 := Lib.hid hb9.size
            clear K0 K1 K2 kd0 kd1 z0 z1 HX HY HP HT HQ HRFE hcb hR9 hl9 hb9 hB
            go_wp2_with fail
            refine (HFDE.out _ HP9.out HT9.out HY9.out (far_new HYB.out (Nat.le_refl _))).mono ?_
            rintro e w2 ⟨A2, cap2, rfl, hp2, ht2, hf2, hl2⟩
            have hB2 : Below w.heap.size w w2 := fed_below hB9 hf2 (Nat.le_refl _) HA.out
            have hgA : A.map (·.block) ≠ some g := fun e => by have := HAl.out _ e; omega
            have hc2 : Blk w2 g 30 #[.int .i64 room, .slice A9 l2.length c9, .int .i64 (ov2 : Int)] := (hf2.2.2.2.2 g HCB.out.lt (by omega) hgA).trans HCB.out
            have hq2 : Blk w2 rb 30 #[.int .i64 room, .slice R n c, .int .i64 (ov : Int)] := (hf2.2.2.2.2 rb HQ9.out.lt (by omega) HAq.out).trans HQ9.out
            have hl3 : ∀ h, A9.map (·.block) = some h → rb < h ∧ h < w2.heap.size ∧ A2.map (·.block) ≠ some h := fun h hh => by
              obtain ⟨h1, h2, h3⟩ := HL9.out h hh
              have hzz := hf2.2.2.2.1
              have hne : A.map (·.block) ≠ some h := by
                rcases h3 with h3 | h3
                · exact fun e => by have := HAl.out _ e; omega
                · exact (HR.out h h3).2.2
              refine ⟨?_, by omega, ?_⟩
              · rcases h3 with h3 | h3
                · omega
                · exact (HR.out h h3).1
              · rcases hl2 with e2 | e2
                · rw [e2]; exact hne
                · rw [e2]; intro e; simp at e; omega
            have hR2 : RB w2 A9 l2.length l2 := RB.kept HR9.out hf2.2.2.2.1 (fun h _ hh hlt => hf2.2.2.2.2 h hlt (by have := (hl3 h hh).1; omega) (by
              obtain ⟨h1, h2, h3⟩ := HL9.out h hh
              rcases h3 with h3 | h3
              · exact fun e => by have := HAl.out _ e; omega
              · exact (HR.out h h3).2.2))
            have HA2 := Lib.hid (show ∀ g, A2.map (·.block) = some g → w.heap.size ≤ g from fun g hg => by
              rcases hl2 with e2 | e2
              · exact HA.out g (e2 ▸ hg)
              · rw [e2] at hg; simp at hg; have := hB9.size; omega)
            have C0 := hc2.cell 0
            have C1 := hc2.cell 1
            have C2 := hc2.cell 2
            have Q0 := hq2.cell 0
            have Q1 := hq2.cell 1
            have Q2 := hq2.cell 2
            have q0 := hq2.frozen 0
            have q1 := hq2.frozen 1
            have q2 := hq2.frozen 2
            simp only [List.getElem?_toArray, List.getElem?_cons_zero, List.getElem?_cons_succ] at C0 C1 C2 Q0 Q1 Q2
            have HL2 := Lib.hid hl2; have HF2 := Lib.hid hf2; have HR2 := Lib.hid hR2; have HL3a := Lib.hid hl3; have HT2 := Lib.hid ht2; have HP2 := Lib.hid hp2; have HQ2 := Lib.hid hq2
            clear HCB HR9 HL9 hl2 hf2 hR2 hl3 ht2 hp2 hq2 hc2 kd9 hB9 HP9 HT9 HQ9 HY9
            have hgq : ¬ g = rb := by omega
            go_wp2_with fail
            have hp2 := HP2.out; have ht2 := HT2.out; have hq2 := HQ2.out; have hR2 := HR2.out; have hl3 := HL3a.out
            clear C0 C1 C2 Q0 Q1 Q2 q0 q1 q2 HP2 HT2 HQ2 HR2 HL3a
            have hB3 : Below w.heap.size w (((w2.setCell ⟨rb, 0, none⟩ (.int .i64 room)).setCell ⟨rb, 1, none⟩ (.slice A9 l2.length c9)).setCell ⟨rb, 2, none⟩ (.int .i64 (ov2 : Int))) := by go_grown
            have hp3 := hp2.far3 (g' := rb) (by omega) (.int .i64 room) (.slice A9 l2.length c9) (.int .i64 (ov2 : Int))
            have ht3 := Wt.far3 ht2 (g := rb) (ht2.ne hq2 (by decide)) (.int .i64 room) (.slice A9 l2.length c9) (.int .i64 (ov2 : Int))
            have hq3 := hq2.set3 (.int .i64 room) (.slice A9 l2.length c9) (.int .i64 (ov2 : Int))
            have hR3 := RB.far3 hR2 (g := rb) (fun _ e => by have := (hl3 _ e).1; omega) (.int .i64 room) (.slice A9 l2.length c9) (.int .i64 (ov2 : Int))
            have hz3 : w2.heap.size = (((w2.setCell ⟨rb, 0, none⟩ (.int .i64 room)).setCell ⟨rb, 1, none⟩ (.slice A9 l2.length c9)).setCell ⟨rb, 2, none⟩ (.int .i64 (ov2 : Int))).heap.size := by simp
            clear hB2 hp2 ht2 hq2 hR2
            generalize (((w2.setCell ⟨rb, 0, none⟩ (.int .i64 room)).setCell ⟨rb, 1, none⟩ (.slice A9 l2.length c9)).setCell ⟨rb, 2, none⟩ (.int .i64 (ov2 : Int))) = W3 at hB3 hp3 ht3 hq3 hR3 hz3 ⊢
            have HR3 := Lib.hid hR3; have HT3 := Lib.hid ht3; have HL3 := Lib.hid hl3; have HZ3 := Lib.hid hz3; clear hR3 ht3 hl3 hz3
            refine (sm_any w.heap.size l2.length cap2 c9 ov2 A2 A9 room l2 W3 hp3 HT3.out HR3.out hcl9 (by omega) hfd2).mono ?_
            rintro e w4 ⟨rfl, hb4⟩
            have hp4 := hp3.below hb4 hp3.lt
            have hq4 := hq3.below hb4 hq3.lt
            have HT4 := Lib.hid (HT3.out.below hb4)
            have HR4 := Lib.hid (HR3.out.later hb4)
            have hB4 := below_trans hB3 hb4
            have HZ4 := Lib.hid hb4.size
            clear hp3 hq3 hB3 HT3 HR3 hb4
            by_cases hpos : 0 < l2.length
            · obtain rfl : ov2 = 0 := HFD3.out hpos
              have hposi : (0 : Int) < (l2.length : Int) := by omega
              go_wp2_with fail
              refine (waiting_any w.heap.size l2.length cap2 A2 room _ w4 hp4).mono ?_
              rintro e w5 ⟨rfl, hw5⟩
              subst hw5
              go_wp2_with fail
              refine (waiting_any w.heap.size l2.length cap2 A2 room _ w4 hp4).mono ?_
              rintro e w5 ⟨rfl, hw5⟩
              subst hw5
              go_wp2_with fail
              refine (over_any w.heap.size l2.length cap2 A2 room _ w4 hp4).mono ?_
              rintro e w5 ⟨rfl, hw5⟩
              subst hw5
              go_wp2
              go_roundw
              case rel => exact ⟨k + 1, by omega, by go_num, Lib.hid ⟨l2.length, cap2, c9, 0, A2, A9, l2, hB4, hp4, HT4.out, hq4, HR4.out, hcl9, hfd1, by omega, fun _ => rfl, HA2.out, fun h hh => ⟨(HL3.out h hh).1, by have := (HL3.out h hh).2.1; have := HZ4.out; have := HZ3.out; omega, (HL3.out h hh).2.2⟩⟩⟩
              case measure => simp [intOf]; omega
            · have hposi : ¬ (0 : Int) < (l2.length : Int) := by omega
              go_wp2_with fail
              refine (waiting_any w.heap.size l2.length cap2 A2 room _ w4 hp4).mono ?_
              rintro e w5 ⟨rfl, hw5⟩
              subst hw5
              go_wp2_with fail
              refine (waiting_any w.heap.size l2.length cap2 A2 room _ w4 hp4).mono ?_
              rintro e w5 ⟨rfl, hw5⟩
              subst hw5
              go_wp2
              go_roundw
              case rel => exact ⟨k + 1, by omega, by go_num, Lib.hid ⟨l2.length, cap2, c9, ov2, A2, A9, l2, hB4, hp4, HT4.out, hq4, HR4.out, hcl9, hfd1, hfd2, HFD3.out, HA2.out, fun h hh => ⟨(HL3.out h hh).1, by have := (HL3.out h hh).2.1; have := HZ4.out; have := HZ3.out; omega, (HL3.out h hh).2.2⟩⟩⟩
              case measure => simp [intOf]; omega
        · have hkb : (kd == 0) = false := by simp [hkd]
          have hfd := nx_facts (room := room) (ov := ov) HX.out.len hnr hov HN0.out
          have HRN := rnext_u R n c ov room l wr HX.out hnc (by omega) hov
          have HNX := fun (X : World) (h1 : Blk X w.heap.size 58 #[.int .i64 room, .slice A n cap, .int .i64 (ov : Int)]) (h2 : Wt X A n cap l) => next_u w.heap.size n cap ov A room l X h1 h2 (by omega) HN0.out
          generalize nkind n l = K at *
          generalize nxL n l = l2 at *
          generalize nxOv n ov l = ov2 at *
          generalize nxB n l = body at *
          have HRNE := Lib.hid HRN; have HNXE := Lib.hid HNX; clear HRN HNX
          obtain ⟨hfd1, hfd2, hfd3, hbd⟩ := hfd
          have HFD3 := Lib.hid hfd3; clear hfd3
          go_wp2_with fail
          refine HRNE.out.mono ?_
          rintro e w1' ⟨A9, c9, B9, cb9, rfl, hR9, hcl9, hBd9, hb9, hl9, hbl9⟩
          have hpl := HP.out.lt
          have hql := HQ.out.lt
          have HAl := Lib.hid (fun (h : Nat) (hh : A.map (·.block) = some h) => HT.out.lt hh)
          have hbz := hb9.size
          have hbx : Below wr.heap.size wr (w1'.alloc (.cells #[.int .i64 room, .slice A9 l2.length c9, .int .i64 (ov2 : Int)] 30)) := hb9.alloc hbz _
          have HPx := Lib.hid (HP.out.below hbx hpl)
          have HTx := Lib.hid (HT.out.below hbx)
          have HQx := Lib.hid (HQ.out.below hbx hql)
          have hBx := below_trans hB hbx
          have HCx := Lib.hid (Blk.new w1' 30 #[.int .i64 room, .slice A9 l2.length c9, .int .i64 (ov2 : Int)])
          have HRx := Lib.hid (RB.alloc hR9 (.cells #[.int .i64 room, .slice A9 l2.length c9, .int .i64 (ov2 : Int)] 30))
          have HBx := Lib.hid (RB.alloc hBd9 (.cells #[.int .i64 room, .slice A9 l2.length c9, .int .i64 (ov2 : Int)] 30))
          have HZx := Lib.hid hbx.size
          have HL9 := Lib.hid hl9; have HBL9 := Lib.hid hbl9
          clear K0 K1 K2 kd0 kd1 z0 z1 HX HY HP HT HQ HRNE hR9 hl9 hb9 hB hBd9 hbx hbl9
          go_wp2_with fail
          generalize (w1'.alloc (.cells #[.int .i64 room, .slice A9 l2.length c9, .int .i64 (ov2 : Int)] 30)) = X at *
          refine (HNXE.out _ HPx.out HTx.out).mono ?_
          rintro e w2 ⟨A2, cap2, B2, cb2, rfl, hp2, ht2, hbd2, hf2, hl2⟩
          have hB2 : Below w.heap.size w w2 := fed_below hBx hf2 (Nat.le_refl _) (fun g hg => by simp at hg)
          have hc2 : Blk w2 w1'.heap.size 30 #[.int .i64 room, .slice A9 l2.length c9, .int .i64 (ov2 : Int)] := (hf2.2.2.2.2 _ HCx.out.lt (by omega) (by simp)).trans HCx.out
          have hq2 : Blk w2 rb 30 #[.int .i64 room, .slice R n c, .int .i64 (ov : Int)] := (hf2.2.2.2.2 rb HQx.out.lt (by omega) (by simp)).trans HQx.out
          have hl3 : ∀ h, A9.map (·.block) = some h → rb < h ∧ h < w2.heap.size ∧ A2.map (·.block) ≠ some h := fun h hh => by
            rw [HL9.out] at hh
            obtain ⟨h1, h2, h3⟩ := HR.out h hh
            have := hf2.2.2.2.1
            have := HZx.out
            exact ⟨h1, by omega, by rw [hl2]; exact h3⟩
          have hR2 : RB w2 A9 l2.length l2 := RB.kept HRx.out hf2.2.2.2.1 (fun h _ hh hlt => hf2.2.2.2.2 h hlt (by have := (hl3 h hh).1; omega) (by simp))
          have HBD := Lib.hid (show RB w2 B9 body.length body from RB.kept HBx.out hf2.2.2.2.1 (fun h h0 hh hlt => hf2.2.2.2.2 h hlt (by rw [HBL9.out h0] at hh; have := (HR.out h hh).1; omega) (by simp)))
          have HBD2 := Lib.hid hbd2
          have HA2 := Lib.hid (show ∀ g, A2.map (·.block) = some g → w.heap.size ≤ g from fun g hg => HA.out g (hl2 ▸ hg))
          have HR2 := Lib.hid hR2; have HL3a := Lib.hid hl3; have HT2 := Lib.hid ht2; have HP2 := Lib.hid hp2; have HQ2 := Lib.hid hq2; have HC2 := Lib.hid hc2
          clear HL9 HBL9 hl2 hf2 hR2 hl3 ht2 hp2 hq2 hc2 hBx HPx HTx HQx hbd2 HCx HRx HBx
          go_wp2_with fail
          refine (same_any B2 B9 body.length body.length _ _ body body w2 HBD2.out HBD.out (by simp only [maxLen]; omega) (by simp only [maxLen]; omega)).mono ?_
          rintro e w3 ⟨rfl, q3, hw3⟩
          replace hB2 : Below w.heap.size w w3 := by rw [hw3]; exact below_drawn hB2 q3
          have hp2 : Blk w3 w.heap.size 58 #[.int .i64 room, .slice A2 l2.length cap2, .int .i64 (ov2 : Int)] := by rw [hw3]; exact HP2.out.drewN q3
          have ht2 : Wt w3 A2 l2.length cap2 l2 := by rw [hw3]; exact HT2.out.drewN q3
          have hq2 : Blk w3 rb 30 #[.int .i64 room, .slice R n c, .int .i64 (ov : Int)] := by rw [hw3]; exact HQ2.out.drewN q3
          have hc2 : Blk w3 w1'.heap.size 30 #[.int .i64 room, .slice A9 l2.length c9, .int .i64 (ov2 : Int)] := by rw [hw3]; exact HC2.out.drewN q3
          have hR2 : RB w3 A9 l2.length l2 := by rw [hw3]; exact RB.drawn HR2.out q3
          have hl3 : ∀ h, A9.map (·.block) = some h → rb < h ∧ h < w3.heap.size ∧ A2.map (·.block) ≠ some h := by rw [hw3]; exact HL3a.out
          clear hw3 HP2 HT2 HQ2 HC2 HR2 HL3a HBD HBD2
          rw [show decide (body = body) = true by simp]
          have C0 := hc2.cell 0
          have C1 := hc2.cell 1
          have C2 := hc2.cell 2
          have Q0 := hq2.cell 0
          have Q1 := hq2.cell 1
          have Q2 := hq2.cell 2
          have q0 := hq2.frozen 0
          have q1 := hq2.frozen 1
          have q2 := hq2.frozen 2
          simp only [List.getElem?_toArray, List.getElem?_cons_zero, List.getElem?_cons_succ] at C0 C1 C2 Q0 Q1 Q2
          have HR2 := Lib.hid hR2; have HL3a := Lib.hid hl3; have HT2 := Lib.hid ht2; have HP2 := Lib.hid hp2; have HQ2 := Lib.hid hq2
          clear hR2 hl3 ht2 hp2 hq2 hc2
          have hgq : ¬ w1'.heap.size = rb := by omega
          go_wp2_with fail
          have hp2 := HP2.out; have ht2 := HT2.out; have hq2 := HQ2.out; have hR2 := HR2.out; have hl3 := HL3a.out
          clear C0 C1 C2 Q0 Q1 Q2 q0 q1 q2 HP2 HT2 HQ2 HR2 HL3a
          have hB3 : Below w.heap.size w (((w3.setCell ⟨rb, 0, none⟩ (.int .i64 room)).setCell ⟨rb, 1, none⟩ (.slice A9 l2.length c9)).setCell ⟨rb, 2, none⟩ (.int .i64 (ov2 : Int))) := by go_grown
          have hp3 := hp2.far3 (g' := rb) (by omega) (.int .i64 room) (.slice A9 l2.length c9) (.int .i64 (ov2 : Int))
          have ht3 := Wt.far3 ht2 (g := rb) (ht2.ne hq2 (by decide)) (.int .i64 room) (.slice A9 l2.length c9) (.int .i64 (ov2 : Int))
          have hq3 := hq2.set3 (.int .i64 room) (.slice A9 l2.length c9) (.int .i64 (ov2 : Int))
          have hR3 := RB.far3 hR2 (g := rb) (fun _ e => by have := (hl3 _ e).1; omega) (.int .i64 room) (.slice A9 l2.length c9) (.int .i64 (ov2 : Int))
          have hz3 : w3.heap.size = (((w3.setCell ⟨rb, 0, none⟩ (.int .i64 room)).setCell ⟨rb, 1, none⟩ (.slice A9 l2.length c9)).setCell ⟨rb, 2, none⟩ (.int .i64 (ov2 : Int))).heap.size := by simp
          clear hB2 hp2 ht2 hq2 hR2
          generalize (((w3.setCell ⟨rb, 0, none⟩ (.int .i64 room)).setCell ⟨rb, 1, none⟩ (.slice A9 l2.length c9)).setCell ⟨rb, 2, none⟩ (.int .i64 (ov2 : Int))) = W3 at hB3 hp3 ht3 hq3 hR3 hz3 ⊢
          have HR3 := Lib.hid hR3; have HT3 := Lib.hid ht3; have HL3 := Lib.hid hl3; have HZ3 := Lib.hid hz3; clear hR3 ht3 hl3 hz3
          refine (sm_any w.heap.size l2.length cap2 c9 ov2 A2 A9 room l2 W3 hp3 HT3.out HR3.out hcl9 (by omega) hfd2).mono ?_
          rintro e w4 ⟨rfl, hb4⟩
          have hp4 := hp3.below hb4 hp3.lt
          have hq4 := hq3.below hb4 hq3.lt
          have HT4 := Lib.hid (HT3.out.below hb4)
          have HR4 := Lib.hid (HR3.out.later hb4)
          have hB4 := below_trans hB3 hb4
          have HZ4 := Lib.hid hb4.size
          clear hp3 hq3 hB3 HT3 HR3 hb4
          by_cases hpos : 0 < l2.length
          · obtain rfl : ov2 = 0 := HFD3.out hpos
            have hposi : (0 : Int) < (l2.length : Int) := by omega
            go_wp2_with fail
            refine (waiting_any w.heap.size l2.length cap2 A2 room _ w4 hp4).mono ?_
            rintro e w5 ⟨rfl, hw5⟩
            subst hw5
            go_wp2_with fail
            refine (waiting_any w.heap.size l2.length cap2 A2 room _ w4 hp4).mono ?_
            rintro e w5 ⟨rfl, hw5⟩
            subst hw5
            go_wp2_with fail
            refine (over_any w.heap.size l2.length cap2 A2 room _ w4 hp4).mono ?_
            rintro e w5 ⟨rfl, hw5⟩
            subst hw5
            go_wp2
            go_roundw
            case rel => exact ⟨k + 1, by omega, by go_num, Lib.hid ⟨l2.length, cap2, c9, 0, A2, A9, l2, hB4, hp4, HT4.out, hq4, HR4.out, hcl9, hfd1, by omega, fun _ => rfl, HA2.out, fun h hh => ⟨(HL3.out h hh).1, by have := (HL3.out h hh).2.1; have := HZ4.out; have := HZ3.out; omega, (HL3.out h hh).2.2⟩⟩⟩
            case measure => simp [intOf]; omega
          · have hposi : ¬ (0 : Int) < (l2.length : Int) := by omega
            go_wp2_with fail
            refine (waiting_any w.heap.size l2.length cap2 A2 room _ w4 hp4).mono ?_
            rintro e w5 ⟨rfl, hw5⟩
            subst hw5
            go_wp2_with fail
            refine (waiting_any w.heap.size l2.length cap2 A2 room _ w4 hp4).mono ?_
            rintro e w5 ⟨rfl, hw5⟩
            subst hw5
            go_wp2
            go_roundw
            case rel => exact ⟨k + 1, by omega, by go_num, Lib.hid ⟨l2.length, cap2, c9, ov2, A2, A9, l2, hB4, hp4, HT4.out, hq4, HR4.out, hcl9, hfd1, hfd2, HFD3.out, HA2.out, fun h hh => ⟨(HL3.out h hh).1, by have := (HL3.out h hh).2.1; have := HZ4.out; have := HZ3.out; omega, (HL3.out h hh).2.2⟩⟩⟩
            case measure => simp [intOf]; omega
      · obtain ⟨n, cap, c, ov, A, R, l, hB, _⟩ := hrel.out
        clear hrel
        by_cases hl : k < len
        · have hki : (k : Int) < (len : Int) := by omega
          have hk2 : ¬ (k : Int) < 200 := by omega
          go_wp2_with fail
          refine (known_any _).mono ?_
          rintro e w9 ⟨rfl, hb9⟩
          go_wp2
          go_ret
          exact ⟨rfl, below_trans hB hb9⟩
        · have hki : ¬ (k : Int) < (len : Int) := by omega
          go_wp2_with fail
          refine (known_any _).mono ?_
          rintro e w9 ⟨rfl, hb9⟩
          go_wp2
          go_ret
          exact ⟨rfl, below_trans hB hb9⟩

theorem own : ownKnob Try.prog.godebug = none := by kernel_rfl
theorem laidOut : laidOutB Try.prog = true := by kernel_rfl
set_option maxRecDepth 100000 in
theorem lifted (os : Os) (started : os.Started) (H : Type) (enc : TypeId × Value → H) :
    ReturnsInHanded {} Try.checked os 3 .any (Rows.framePlaysSpec.pre6 enc Try.prog Try.f3 Rows.framePlaysRow.domain false) (Rows.framePlaysSpec.post enc Try.prog Try.f3 false true false false) := by
  refine returnsInHanded_of_change_sized (C := Try.checked) own started (by kernel_rfl) Try.func3
    (ChangeSpec.witness6 (enc := enc) (C := Try.checked) false ⟨#[], #[.int .i64 0, .slice none 0 0], []⟩ 8 (by kernel_rfl) (by kernel_rfl) (by kernel_rfl) (by kernel_rfl)) ?_
  intro W base args ds gs before hval0 hW hcnd hsz0 _
  have hval : ∀ (j : Nat) t v, Try.f3.params[j]? = some t → args[j]? = some v → Value.okWide Try.prog W .any base t v := hval0
  have hW' := hW
  obtain ⟨p, q, hA0, hV, rfl, hfz, hnd⟩ := hW
  have hA : DataW.TrodAll enc Try.prog W 0 (fun _ => true) true Try.f3.params.toList args.toList ds p := hA0
  rw [Try.params3] at hA hval
  obtain ⟨v0, vs0, d0, ds0, p0, q0, hargs, rfl, rfl, h0, r0⟩ := trodAll_cons hA
  obtain ⟨v1, vs1, d1, ds1, p1, q1, rfl, rfl, rfl, h1, r1⟩ := trodAll_cons r0
  obtain ⟨rfl, rfl, rfl⟩ := trodAll_nil r1
  obtain rfl : args = #[v0, v1] := by cases args; simp_all
  obtain ⟨rfl, rfl⟩ := trodVars_none hV
  have k0 := h0
  have lt0 : ∀ x ∈ p0, x.block < W.heap.size := by obtain ⟨m, hm⟩ := k0; exact DataW.trod_lt m _ _ _ hm
  obtain ⟨a0, rfl, rfl, rfl, w0⟩ := open_int Try.underlying3 (hval 0 3 v0 rfl rfl) h0
  have k1 := h1
  have lt1 : ∀ x ∈ p1, x.block < W.heap.size := by obtain ⟨m, hm⟩ := k1; exact DataW.trod_lt m _ _ _ hm
  obtain ⟨a1, len1, cap1, rfl⟩ := okWide_slice Try.underlying22 (hval 1 22 v1 rfl rfl)
  have w1 : IsSl W 2 (OpOk W) a1 len1 cap1 := by
    obtain ⟨fuel, hf⟩ := h1
    exact isSl_of Try.underlying22 (by kernel_rfl) opOk_of hf (fun n hn => of_decide_eq_true (List.all_eq_true.1 hsz0 n (DataW.weights_mem_each (j := 1) (t := 22) (d := d1) rfl rfl n hn)))
  clear hA0 hval0
  refine (walk a0 a1 len1 cap1 W (bounds_i64 w0) w1).mono fun e W' ⟨he, bel⟩ => ?_
  subst he
  exact ⟨_, rfl, _, _, _, [], _, [], hW', trodAll_mk1 (shut_bool Try.underlying4 _), (trodAll_cons_mk (Below.trod laidOut (by kernel_rfl) (of_decide_eq_true (by kernel_rfl)) k0 bel lt0) (trodAll_cons_mk (Below.trod laidOut (by kernel_rfl) (of_decide_eq_true (by kernel_rfl)) k1 bel lt1) trodAll_mk0)), rfl, bel.frame _, fun h => by cases h⟩
theorem over : Rows.framePlaysRow.holds Try.pinned (OpenSpec.ofChange Rows.framePlaysSpec) :=
  OpenClaim.holds_of_wide 3 Try.f3 rfl rfl rfl rfl rfl rfl rfl ⟨rfl, rfl, rfl, rfl, rfl⟩ rfl rfl rfl rfl rfl (by kernel_rfl) Try.func3 (by kernel_rfl)
    (of_decide_eq_true (by kernel_rfl)) (by unfold Func.isWrapper; first | (rw [if_pos (by decide +kernel)]; kernel_rfl) | (rw [if_neg (by decide +kernel)]; exact ⟨rfl, rfl⟩))
    (fun os started H enc _ => lifted os started H enc)
/-- The statement. -/
theorem proved : Rows.FramePlaysSaid := over
#print axioms proved
end Go.Proofs.Ytmkehbmegimecaa.framePlays
