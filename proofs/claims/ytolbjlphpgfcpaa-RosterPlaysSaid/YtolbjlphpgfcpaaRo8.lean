/- roster: known by contract. -/
import Derived.Test.YtolbjlphpgfcpaaRo7
namespace Go.Proofs.Ytolbjlphpgfcpaa
set_option linter.unusedVariables false
set_option linter.unusedSimpArgs false
open Go.RowKit
def kM : Mb := ⟨7, 0, 0, 1, 0, 0⟩
def kH1 : Int → Option Mb := enH (fun _ => none) kM
def kH2 : Int → Option Mb := chH kH1 7 spM spE
def kH3 : Int → Option Mb := chH kH2 7 spM spE
def kH4 : Int → Option Mb := chH kH3 0 spM spE
set_option maxRecDepth 100000 in
set_option maxHeartbeats 8000000 in
theorem rknown_any (w : World) : Calls Try.prog 16 #[] w fun e w' => e = .returned (.bool true) ∧ Below w.heap.size w w' := by
  have HE1 := Lib.hid (show enE (fun _ => none) kM = 0 by decide)
  have HE2 := Lib.hid (show chE kH1 7 spE = 0 by decide)
  have HE3 := Lib.hid (show chE kH2 7 spE = 41 by decide)
  have HE4 := Lib.hid (show chE kH3 0 spE = 0 by decide)
  have HC := Lib.hid (show enC (fun _ => none) kM 0 = 1 by decide)
  go_enter Try.func16, Try.ntmps16
  go_wp2_with fail
  refine (rnew_any _).mono ?_
  rintro e w1 ⟨rfl, hR, hb⟩
  have HB := Lib.hid hb
  have HR := Lib.hid hR
  clear hR hb
  obtain ⟨y, hy⟩ : ∃ y, w.heap.size = y := ⟨_, rfl⟩
  have HY := Lib.hid (show w.heap.size ≤ y by omega)
  rw [hy] at HR ⊢
  clear hy
  have HEN := Lib.hid (enrol_any w1 y 0 0 none _ kM HR.out (by decide) (by decide))
  unfold EnP at HEN
  rw [HE1.out, HC.out] at HEN
  simp only [Mb.V, kM] at HEN
  go_wp2_with fail
  refine HEN.out.mono ?_
  rintro e w2 ⟨o2, n2, hn2, rfl, hA⟩
  have HF2 := Lib.hid (hA.farB HB.out.size (fun i hi => by cases hi))
  have HB2 := Lib.hid (hA.ke.bel HB.out HY.out (fun i hi => by cases hi))
  have HR2 := Lib.hid (show RS w2 y o2 n2 kH1 1 from hA.rs)
  clear hA HB HR HEN
  have HSP := Lib.hid (spend_any w2 y n2 1 o2 kH1 7 HR2.out (by decide) (by omega))
  unfold ChP at HSP
  rw [HE2.out] at HSP
  go_wp2_with fail
  refine HSP.out.mono ?_
  rintro e w3 ⟨n3, hn3, rfl, hA⟩
  have HB3 := Lib.hid (hA.ke.bel HB2.out HY.out HF2.out)
  have HR3 := Lib.hid (show RS w3 y o2 n3 kH2 1 from hA.rs)
  clear hA HB2 HR2 HSP
  have HSP := Lib.hid (spend_any w3 y n3 1 o2 kH2 7 HR3.out (by decide) (by omega))
  unfold ChP at HSP
  rw [HE3.out] at HSP
  go_wp2_with fail
  refine HSP.out.mono ?_
  rintro e w4 ⟨n4, hn4, rfl, hA⟩
  have HB4 := Lib.hid (hA.ke.bel HB3.out HY.out HF2.out)
  have HR4 := Lib.hid (show RS w4 y o2 n4 kH3 1 from hA.rs)
  clear hA HB3 HR3 HSP
  have HSP := Lib.hid (spend_any w4 y n4 1 o2 kH3 0 HR4.out (by decide) (by omega))
  unfold ChP at HSP
  rw [HE4.out] at HSP
  go_wp2_with fail
  refine HSP.out.mono ?_
  rintro e w5 ⟨n5, hn5, rfl, hA⟩
  have HB5 := Lib.hid (hA.ke.bel HB4.out HY.out HF2.out)
  have HR5 := Lib.hid (show RS w5 y o2 n5 kH4 1 from hA.rs)
  clear hA HB4 HR4 HSP
  go_wp2_with fail
  refine (rlen_any w5 y n5 1 o2 kH4 HR5.out (by decide)).mono ?_
  rintro e w6 ⟨rfl, hw⟩
  subst hw
  go_wp2
  go_ret
  exact ⟨rfl, HB5.out⟩
end Go.Proofs.Ytolbjlphpgfcpaa
