/-
  The document's examples of sha.Sum, walked.
-/
import Derived.Lib.SlBytesConst
import Derived.Test.YtecfpgkjmlapfaaDoorShSum
import Derived.Test.YtecfpgkjmlapfaaDoorShConst
namespace Go.Proofs.YtecfpgkjmlapfaaDoor
open Go.RowKit
set_option linter.unusedVariables false

/-- A row that is known whole, as a slice of bytes. -/
theorem sl_of_wh {w : World} {g : Nat} {t : TypeId} {l : List UInt8} (h : Wh w g t (bRow l)) : Sl w w.heap.size (some ⟨g, 0, none⟩) l := by
  intro _
  refine ⟨g, 0, rfl, h.lt, fun i v hv => ?_⟩
  rw [Nat.zero_add, h.cell, bRow, List.getElem?_toArray]
  exact hv

/-- One part. -/
theorem one_part {w : World} {A : Option Addr} {c : Nat} {l : List UInt8} (h1 : l.length ≤ c) (h2 : c ≤ maxLen) (h3 : Sl w w.heap.size A l) :
    [Value.slice A l.length c].length = [l].length ∧ ∀ (i : Nat) (v : Value) (m : List UInt8), [Value.slice A l.length c][i]? = some v → [l][i]? = some m → ∃ A' c', v = .slice A' m.length c' ∧ m.length ≤ c' ∧ c' ≤ maxLen ∧ Sl w w.heap.size A' m := by
  refine ⟨rfl, fun i v m hv hm => ?_⟩
  rcases i with _ | i
  · obtain rfl := Option.some.inj hv
    obtain rfl := Option.some.inj hm
    exact ⟨A, c, rfl, h1, h2, h3⟩
  · cases hv

theorem wh_second (w : World) (o : Obj) (t : TypeId) (cs : Array Value) : Wh ((w.alloc o).alloc (.cells cs t)) (w.heap.size + 1) t cs := by
  have h := Wh.new (w.alloc o) t cs
  rwa [show (w.alloc o).heap.size = w.heap.size + 1 by simp] at h

theorem lit_abc : strB (sumK kW [97, 98, 99]) = { data := #[186, 120, 22, 191, 143, 1, 207, 234, 65, 65, 64, 222, 93, 174, 34, 35, 176, 3, 97, 163, 150, 23, 122, 156, 180, 16, 255, 97, 242, 0, 21, 173] } := by rw [sum_abc]; rfl
theorem lit_none : strB (sumK kW []) = { data := #[227, 176, 196, 66, 152, 252, 28, 20, 154, 251, 244, 200, 153, 111, 185, 36, 39, 174, 65, 228, 100, 155, 147, 76, 164, 149, 153, 27, 120, 82, 184, 85] } := by rw [sum_none]; rfl
theorem sumK_len (ks : List W32) (L : List UInt8) : (sumK ks L).length = 32 := bytesS_len _

set_option maxRecDepth 100000 in
set_option maxHeartbeats 400000 in
theorem known_any (w : World) (hK : KT w kW) (hKb : 0 < w.heap.size) :
    Calls Tryd.prog 5 #[] w fun e w' => e = .returned (.bool true) ∧ Below w.heap.size w w' := by
  obtain ⟨ks, hks⟩ : ∃ ks, ks = kW := ⟨_, rfl⟩
  rw [← hks] at hK
  have hkl : ks.length = 64 := by rw [hks]; exact kW_len
  have HKS := Deep.mk hks
  have HKL := Deep.mk hkl
  have HK := Lib.hid hK
  clear hks hkl hK
  have kc := fun (w : World) (C : Array Value) (n c : Nat) => Lib.run_convert_bytes_const (P := Tryd.prog) w 28 5 C n c Tryd.underlying28 Tryd.underlying5
  go_enter Tryd.func5, Tryd.ntmps5
  go_wp2_with fail
  clear kc
  have hb1 : Below w.heap.size w ((w.alloc (.cells #[.int .u8 97, .int .u8 98, .int .u8 99] 5 (3, 4))).alloc (.cells #[.slice (some ⟨w.heap.size, 0, none⟩) 3 3] 28)) := ((Below.refl _ _).alloc (Nat.le_refl _) _).alloc (by simp) _
  have hs1 : Sv ((w.alloc (.cells #[.int .u8 97, .int .u8 98, .int .u8 99] 5 (3, 4))).alloc (.cells #[.slice (some ⟨w.heap.size, 0, none⟩) 3 3] 28)) ((w.alloc (.cells #[.int .u8 97, .int .u8 98, .int .u8 99] 5 (3, 4))).alloc (.cells #[.slice (some ⟨w.heap.size, 0, none⟩) 3 3] 28)).heap.size (some ⟨w.heap.size + 1, 0, none⟩) [.slice (some ⟨w.heap.size, 0, none⟩) 3 3] := by
    have h := sv_new (w.alloc (.cells #[.int .u8 97, .int .u8 98, .int .u8 99] 5 (3, 4))) (.slice (some ⟨w.heap.size, 0, none⟩) 3 3) 28
    have e : (w.alloc (.cells #[.int .u8 97, .int .u8 98, .int .u8 99] 5 (3, 4))).heap.size = w.heap.size + 1 := by simp
    rw [e] at h
    exact h.keep (by simp) (fun _ _ => rfl)
  have hs2 : Sl ((w.alloc (.cells #[.int .u8 97, .int .u8 98, .int .u8 99] 5 (3, 4))).alloc (.cells #[.slice (some ⟨w.heap.size, 0, none⟩) 3 3] 28)) ((w.alloc (.cells #[.int .u8 97, .int .u8 98, .int .u8 99] 5 (3, 4))).alloc (.cells #[.slice (some ⟨w.heap.size, 0, none⟩) 3 3] 28)).heap.size (some ⟨w.heap.size, 0, none⟩) [97, 98, 99] := by
    intro _
    refine ⟨w.heap.size, 0, rfl, by simp; omega, fun i v hv => ?_⟩
    rw [World.cell?_alloc_lt _ _ _ (by simp), World.cell?_alloc_mark, Nat.zero_add]
    rcases i with _ | _ | _ | i <;> first | exact hv | cases hv
  generalize (w.alloc (.cells #[.int .u8 97, .int .u8 98, .int .u8 99] 5 (3, 4))).alloc (.cells #[.slice (some ⟨w.heap.size, 0, none⟩) 3 3] 28) = w1 at *
  have hK1 := HK.out.below hKb hb1
  have hKb1 : 0 < w1.heap.size := Nat.lt_of_lt_of_le hKb hb1.size
  refine (sum_any ks [[97, 98, 99]] _ _ 1 1 w1 HKL.out hK1 hKb1 hs1 rfl (Nat.le_refl _) (by unfold maxLen; omega) (one_part (l := [97, 98, 99]) (by simp) (by unfold maxLen; simp) hs2) (by simp)).mono ?_
  rintro e w2 ⟨rfl, hb2⟩
  have HB1 := Lib.hid hb1
  have HB2 := Lib.hid hb2
  have HK2 := Lib.hid (hK1.below hKb1 hb2)
  have hKb2 : 0 < w2.heap.size := Nat.lt_of_lt_of_le hKb1 hb2.size
  obtain ⟨s1, hs1'⟩ : ∃ s1, s1 = sumK ks [[97, 98, 99]].flatten := ⟨_, rfl⟩
  rw [← hs1']
  have HS1 : Deep (strB s1 = { data := #[186, 120, 22, 191, 143, 1, 207, 234, 65, 65, 64, 222, 93, 174, 34, 35, 176, 3, 97, 163, 150, 23, 122, 156, 180, 16, 255, 97, 242, 0, 21, 173] }) := ⟨by rw [hs1', HKS.out]; exact lit_abc⟩
  have hl1 : s1.length = 32 := by rw [hs1']; exact sumK_len _ _
  clear hs1 hs2 hs1' hb1 hb2 hK1
  go_wp2_with fail
  refine (sum_any ks [] [] none 0 0 w2 HKL.out HK2.out hKb2 (Sv.nil _ _ _) rfl (Nat.le_refl _) (by unfold maxLen; omega) ⟨rfl, fun i v l hv => by cases hv⟩ (by simp)).mono ?_
  rintro e w3 ⟨rfl, hb3⟩
  obtain ⟨s2, hs2'⟩ : ∃ s2, s2 = sumK ks ([] : List (List UInt8)).flatten := ⟨_, rfl⟩
  rw [← hs2']
  have HS2 : Deep (strB s2 = { data := #[227, 176, 196, 66, 152, 252, 28, 20, 154, 251, 244, 200, 153, 111, 185, 36, 39, 174, 65, 228, 100, 155, 147, 76, 164, 149, 153, 27, 120, 82, 184, 85] }) := ⟨by rw [hs2', HKS.out]; exact lit_none⟩
  have hl2 : s2.length = 32 := by rw [hs2']; exact sumK_len _ _
  have HB3 := Lib.hid hb3
  have HL1 := Deep.mk hl1
  have HL2 := Deep.mk hl2
  clear hs2' hb3 hl1 hl2
  go_upto_region 2 with (first
    | (refine wpList_store_row rfl 25 (.tmp 1) (.tmp 6) rfl w3.heap.size (bRow s1) rfl rfl _ _ ((Wh.new w3 _ _).alloc _) (info_bRow HL1.out) (by rw [bRow_size, HL1.out]; rfl) (bRow_one _) ?_)
    | (refine wpList_store_row rfl 25 (.tmp 2) (.tmp 7) rfl (w3.heap.size + 1) (bRow s2) rfl rfl _ _ ((wh_second w3 _ _ _).grown (grown_setRow' _ _ _) (by simp)) (info_bRow HL2.out) (by rw [bRow_size, HL2.out]; rfl) (bRow_one _) ?_))
  have hbf : Below w.heap.size w w3 := (HB1.out.trans (HB2.out.mono HB1.out.size)).trans (HB3.out.mono (Nat.le_trans HB1.out.size HB2.out.size))
  rw [zeros32]
  have hw1 : Wh ((((w3.alloc (.cells (bRow (List.replicate 32 0)) 25)).alloc (.cells (bRow (List.replicate 32 0)) 25)).setRow w3.heap.size (bRow s1)).setRow (w3.heap.size + 1) (bRow s2)) w3.heap.size 25 (bRow s1) :=
    (show Wh _ _ _ _ from setRow_heap _ _ _ _ _ _ ((Wh.new w3 25 (bRow (List.replicate 32 0))).alloc _)).grown (grown_setRow' _ (w3.heap.size + 1) (bRow s2)) (by simp)
  have hw2 : Wh ((((w3.alloc (.cells (bRow (List.replicate 32 0)) 25)).alloc (.cells (bRow (List.replicate 32 0)) 25)).setRow w3.heap.size (bRow s1)).setRow (w3.heap.size + 1) (bRow s2)) (w3.heap.size + 1) 25 (bRow s2) :=
    setRow_heap _ _ _ _ _ _ ((wh_second w3 (.cells (bRow (List.replicate 32 0)) 25) 25 (bRow (List.replicate 32 0))).grown (grown_setRow' _ w3.heap.size (bRow s1)) (by simp))
  have hbe : Below w3.heap.size w3 ((((w3.alloc (.cells (bRow (List.replicate 32 0)) 25)).alloc (.cells (bRow (List.replicate 32 0)) 25)).setRow w3.heap.size (bRow s1)).setRow (w3.heap.size + 1) (bRow s2)) :=
    below_setRow (below_setRow (((Below.refl _ _).alloc (Nat.le_refl _) _).alloc (by simp) _) (Nat.le_refl _) _) (by omega) _
  generalize ((((w3.alloc (.cells (bRow (List.replicate 32 0)) 25)).alloc (.cells (bRow (List.replicate 32 0)) 25)).setRow w3.heap.size (bRow s1)).setRow (w3.heap.size + 1) (bRow s2)) = w4 at *
  have hstr1 := run_string_sl (P := Tryd.prog) w4 28 9 5 Tryd.underlying28 Tryd.underlying5 Tryd.underlying9 _ _ 32 32 s1 (sl_of_wh hw1) HL1.out
  have hstr2 := run_string_sl (P := Tryd.prog) w4 28 9 5 Tryd.underlying28 Tryd.underlying5 Tryd.underlying9 _ _ 32 32 s2 (sl_of_wh hw2) HL2.out
  rw [HS1.out] at hstr1
  rw [HS2.out] at hstr2
  have HBE := Lib.hid (hbf.trans (hbe.mono hbf.size))
  clear hw1 hw2 hbe hbf
  go_wp2
  go_ret
  exact ⟨rfl, HBE.out⟩
end Go.Proofs.YtecfpgkjmlapfaaDoor
