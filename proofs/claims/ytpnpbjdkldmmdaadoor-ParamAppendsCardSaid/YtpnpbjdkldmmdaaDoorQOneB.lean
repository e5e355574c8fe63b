/-
  Transport parameters: the document's own bytes of one (hostlerref04.one).
-/
import Derived.Test.YtpnpbjdkldmmdaaDoorQLawOth
import Derived.Test.YtpnpbjdkldmmdaaDoorRefBytes
namespace Go.Proofs.YtpnpbjdkldmmdaaDoor
open Go.RowKit
set_option linter.unusedVariables false

theorem OB.gave {w w' : World} {v : Value} {l : List UInt8} (h : OB w w' v l) : Gave w l (fun v => v) (.returned v) w' := by
  obtain ⟨A, c, rfl, h1, h2⟩ := own_form h.own
  exact ⟨A, c, rfl, h1, h2, h.own, h.bel⟩

theorem one_byte {id : Nat} (h : id ≤ 15) : [UInt8.ofNat id] = enc id := by
  have e : ∀ n : Nat, n ≤ 15 → enc n = [UInt8.ofNat n] := by decide
  exact (e id h).symm

set_option maxRecDepth 10000 in
set_option maxHeartbeats 800000 in
theorem refone_any (id : Nat) (v : List UInt8) (A : Option Addr) (n c : Nat) (w : World) (hid : id ≤ 15) (hv : v.length = n) (hn : n ≤ 65536) (hs : Sl w w.heap.size A v) :
    Calls Tryd.prog 36 #[.int .i64 (id : Int), .slice A n c] w (Gave w (partQ id v) fun v => v) := by
  have hO := OB.lit (w := w) #[.int .u8 (id : Int)] [UInt8.ofNat id] 1 (by simp [cell8]; omega) rfl (by omega)
  rw [one_byte hid] at hO
  have hsh := fun w => short_some (n := n) (by omega) w
  have HSH := Lib.hid hsh
  have HO := Lib.hid hO
  have HS := Lib.hid hs
  have HV := Lib.hid hv
  have hel : (enc id).length ≤ 8 := by rw [enc_length]; exact szN_le _
  have hel2 : (enc n).length ≤ 8 := by rw [enc_length]; exact szN_le _
  have hp : partQ id v = enc id ++ (enc n ++ v) := by unfold partQ; rw [hv]
  rw [hp]
  generalize enc n = E at *
  generalize enc id = I at *
  clear hO hs hv hsh hp
  go_enter Tryd.func36, Tryd.ntmps36
  go_wp2_with (first
    | (go_at_call 37; refine (HSH.out _).mono ?_; rintro e w2 ⟨A2, c2, rfl, hc2, hm2, hown2, hb2⟩; have HO2 := Lib.hid (HO.out.below hb2); have HS2 := Lib.hid (Sv.of_own hown2); clear hown2 hb2)
    | (at_builtin; refine wpList_app_ob rfl (.tmp 7) (.tmp 11) rfl _ _ rfl HO2.out A2 E.length c2 E rfl HS2.out rfl (by omega) ?_; intro v3 w3 hO3 hg3; have HO3 := Lib.hid hO3; clear hO3 hg3)
    | (at_builtin; refine wpList_app_ob rfl (.tmp 12) (.tmp 13) rfl _ _ rfl HO3.out A n c v rfl ((HS.out.below HO3.out.bel).keep HO3.out.bel.size (fun _ _ => rfl)) HV.out (by rw [List.length_append]; omega) ?_; intro v4 w4 hO4 hg4))
  go_ret
  rw [List.append_assoc] at hO4
  exact hO4.gave

end Go.Proofs.YtpnpbjdkldmmdaaDoor
