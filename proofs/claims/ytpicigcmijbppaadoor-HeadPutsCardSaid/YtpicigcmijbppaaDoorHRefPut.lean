/-
  The walk through the document's own Put (hostlerref03), at a head that may be: a long one.
-/
import Derived.Test.YtpicigcmijbppaaDoorHLow
import Derived.Test.YtpicigcmijbppaaDoorStep
namespace Go.Proofs.YtpicigcmijbppaaDoor
open Go.RowKit
set_option linter.unusedVariables false

theorem PB.drew {w0 w : World} {B hb : Nat} {R : Array Value} {v : Value} {b : List UInt8} (h : PB w0 w B hb R v b) : PB w0 w.drew B hb R v b :=
  ⟨own_below h.own (Below.refl _ _).drew, h.bel.drew, h.box.below (Below.refl _ _).drew h.box.lt, h.ne, h.hB⟩

/-- What a call leaves that writes nothing that was there. -/
theorem PB.beside {w0 w w' : World} {B hb : Nat} {R : Array Value} {v : Value} {b : List UInt8} (h : PB w0 w B hb R v b) (hb' : Below w.heap.size w w') : PB w0 w' B hb R v b :=
  ⟨own_below h.own hb', h.bel.trans (hb'.mono h.hBw), h.box.below hb' h.box.lt, h.ne, h.hB⟩

theorem own_lit {w : World} {B : Nat} (cs : Array Value) (l : List UInt8) (n : Nat) (hB : B ≤ w.heap.size) (hc : cs = (l.map cell8).toArray) (hn : l.length = n) (hm : n ≤ 1000) : (w.alloc (.cells cs 5)).ownsRow B 5 1 (.slice (some ⟨w.heap.size, 0, none⟩) n n) l.length (l.map cell8) := by
  subst hn hc
  refine ⟨by simp, .inr ⟨w.heap.size, l.length, _, rfl, hB, heap_alloc_new w _, Nat.le_refl _, by unfold maxLen; omega, by simp, ?_⟩⟩
  rw [Nat.mul_one]
  exact List.take_of_length_le (by simp)

set_option maxRecDepth 10000 in
set_option maxHeartbeats 1600000 in
theorem refput_long (sp k n pn : Nat) (dst src tok : List UInt8) (A1 : Option Addr) (c1 : Nat) (A2 : Option Addr) (c2 : Nat) (A3 : Option Addr) (c3 : Nat) (w : World)
    (hsp : sp = 0 ∨ sp = 1) (hk : k = 1 ∨ k = 2 ∨ k = 3 ∨ k = 4) (hn : n ≤ 65536) (hpn : pn ≤ 4611686018427387903) (h1 : Sl w w.heap.size A1 dst) (h2 : Sl w w.heap.size A2 src) (h3 : Sl w w.heap.size A3 tok) (hd : dst.length ≤ 20) (hs : src.length ≤ 20) (ht : tok.length ≤ 3000) (htk : sp = 1 → tok = []) :
    Calls Tryd.prog 10 #[.agg (headC sp A1 dst.length c1 A2 src.length c2 A3 tok.length c3 false (pn : Int) (k : Int)), .int .i64 (n : Int)] w (Gave w (headB sp k dst src tok false pn n) fun v => v) := by
  obtain ⟨i0, hi0, hz0, hz1, hz2⟩ := info_parts info8
  have hz : (w.alloc (.cells (headC sp A1 dst.length c1 A2 src.length c2 A3 tok.length c3 false (pn : Int) (k : Int)) 25)).heap.size = w.heap.size + 1 := by simp
  have hb0 : Below w.heap.size w (w.alloc (.cells (headC sp A1 dst.length c1 A2 src.length c2 A3 tok.length c3 false (pn : Int) (k : Int)) 25)) := (Below.refl _ _).alloc (Nat.le_refl _) _
  have hW0 : Wh (w.alloc (.cells (headC sp A1 dst.length c1 A2 src.length c2 A3 tok.length c3 false (pn : Int) (k : Int)) 25)) w.heap.size 25 (headC sp A1 dst.length c1 A2 src.length c2 A3 tok.length c3 false (pn : Int) (k : Int)) := Wh.new _ _ _
  have H1 : Hid (Sl (w.alloc (.cells (headC sp A1 dst.length c1 A2 src.length c2 A3 tok.length c3 false (pn : Int) (k : Int)) 25)) (w.heap.size + 1) A1 dst) := h1.keep (Nat.le_succ _) fun p hp => hb0.cell hp
  have H2 : Hid (Sl (w.alloc (.cells (headC sp A1 dst.length c1 A2 src.length c2 A3 tok.length c3 false (pn : Int) (k : Int)) 25)) (w.heap.size + 1) A2 src) := h2.keep (Nat.le_succ _) fun p hp => hb0.cell hp
  have H3 : Hid (Sl (w.alloc (.cells (headC sp A1 dst.length c1 A2 src.length c2 A3 tok.length c3 false (pn : Int) (k : Int)) 25)) (w.heap.size + 1) A3 tok) := h3.keep (Nat.le_succ _) fun p hp => hb0.cell hp
  have hx : firstB sp k false = 191 + k + 32 * sp := by
    unfold firstB
    rcases hsp with rfl | rfl <;> simp <;> omega
  have HH : Hid (headB sp k dst src tok false pn n = UInt8.ofNat (firstB sp k false) :: (([0, 0, 0, 1] ++ (UInt8.ofNat dst.length :: (dst ++ (UInt8.ofNat src.length :: (src ++ ((if sp = 0 then enc tok.length ++ tok else []) ++ enc (k + n))))))) ++ be pn k)) := by
    show _ = _
    unfold headB
    rw [if_neg (by omega)]
    rfl
  rw [hx] at HH
  have HB0 := Lib.hid hb0
  have HW0 := Lib.hid hW0
  generalize headB sp k dst src tok false pn n = HD at *
  clear h1 h2 h3 hb0 hW0 hx htk
  unfold headC
  go_enter Tryd.func10, Tryd.ntmps10
  have hk4 : k ≤ 4 := by omega
  rcases hsp with rfl | rfl
  · go_upto_region 9 with fail
    change Code.wp _ _ _ _ (w.alloc (.cells (headC 0 A1 dst.length c1 A2 src.length c2 A3 tok.length c3 false (pn : Int) (k : Int)) 25))
    generalize (w.alloc (.cells (headC 0 A1 dst.length c1 A2 src.length c2 A3 tok.length c3 false (pn : Int) (k : Int)) 25)) = w0 at *
    have hP : PB w0 (w0.alloc (.cells #[.int .u8 (192 + (k : Int) - 1), .int .u8 0, .int .u8 0, .int .u8 0, .int .u8 1, .int .u8 (dst.length : Int)] 5)) (w.heap.size + 1) w.heap.size (headC 0 A1 dst.length c1 A2 src.length c2 A3 tok.length c3 false (pn : Int) (k : Int)) (.slice (some ⟨w.heap.size + 1, 0, none⟩) 6 6) [UInt8.ofNat (191 + k + 32 * 0), 0, 0, 0, 1, UInt8.ofNat dst.length] := by
      have ho := own_lit (w := w0) (B := w.heap.size + 1) #[.int .u8 (192 + (k : Int) - 1), .int .u8 0, .int .u8 0, .int .u8 0, .int .u8 1, .int .u8 (dst.length : Int)] [UInt8.ofNat (191 + k + 32 * 0), 0, 0, 0, 1, UInt8.ofNat dst.length] 6 (by omega) (by
        simp only [List.map_cons, List.map_nil]
        rw [← byte_len (191 + k + 32 * 0) (by omega), ← byte_len dst.length (by omega)]
        rw [show (192 + (k : Int) - 1 : Int) = ((191 + k + 32 * 0 : Nat) : Int) by omega]
        rfl) rfl (by omega)
      rw [hz] at ho
      exact ⟨ho, (Below.refl _ _).alloc (by omega) _, HW0.out.alloc _, own_type ho (HW0.out.alloc _) (by decide), by omega⟩
    have HP := Lib.hid hP
    have e1 : w0.cell? ⟨w.heap.size, 1, none⟩ = some (.slice A1 dst.length c1) := HW0.out.cell 1
    clear hP
    go_upto_region 10 with (at_builtin; refine wpList_append_sv _ rfl _ _ _ rfl (w.heap.size + 1) 5 i0 _ 1 Tryd.underlying22 hi0 hz0 hz1 hz2 rfl (.slice (some ⟨w.heap.size + 1, 0, none⟩) 6 6) _ _ rfl HP.out.own (w.heap.size + 1) _ dst.length _ (dst.map cell8) rfl (HP.out.sl H1.out) (by simp) (cell8_one dst) (by unfold maxLen; simp; omega) (by simp; omega) HP.out.hBw ?_; intro v3 w3 hown3 hg3 _)
    have HP3 := Lib.hid (HP.out.app (d := dst) hown3 rfl hg3)
    clear hown3 hg3 HP e1
    generalize hb3 : [UInt8.ofNat (191 + k + 32 * 0), 0, 0, 0, 1, UInt8.ofNat dst.length] ++ dst = b3 at HP3
    have hl3 : b3.length ≤ 26 := by rw [← hb3]; simp; omega
    have HB3 := Lib.hid hb3
    clear hb3
    have e2 : w3.cell? ⟨w.heap.size, 2, none⟩ = some (.slice A2 src.length c2) := HP3.out.box.cell 2
    have hwr : IntKind.u8.wrap (src.length : Int) = (src.length : Int) := by simp [IntKind.wrap, IntKind.signed, IntKind.bits]; omega
    have HPA := Lib.hid ((HP3.out.alloc (.cells #[.int .u8 (src.length : Int)] 5)).drew)
    go_region_held3 (fun w' => w'.cell? ⟨w.heap.size, 2, none⟩ = some (.slice A2 src.length c2)) (go_keep)
      (first
        | (refine step_app_sv rfl (.tmp 50) (.tmp 55) 22 rfl (w.heap.size + 1) 5 i0 _ 1 Tryd.underlying22 hi0 hz0 hz1 hz2 rfl v3 _ _ rfl HPA.out.own _ _ 1 1 _ rfl (sv_new _ _ _) rfl (fun u hu => by simp at hu; subst hu; rfl) (by unfold maxLen; omega) (by omega) HPA.out.hBw ?_; intro v4 w4 hown4 hg4; rw [byte_len _ (by omega)] at hown4; have HP4 := Lib.hid (HPA.out.app (d := [UInt8.ofNat src.length]) hown4 rfl hg4); have q4 : w4.cell? ⟨w.heap.size, 2, none⟩ = some (.slice A2 src.length c2) := HP4.out.box.cell 2)
        | (refine step_app_sv rfl (.tmp 56) (.tmp 58) 22 rfl (w.heap.size + 1) 5 i0 _ 1 Tryd.underlying22 hi0 hz0 hz1 hz2 rfl v4 _ _ rfl HP4.out.own (w.heap.size + 1) _ src.length _ (src.map cell8) rfl (HP4.out.sl H2.out) (by simp) (cell8_one src) (by unfold maxLen; simp; omega) (by simp; omega) HP4.out.hBw ?_; intro v5 w5 hown5 hg5; have HP5 := Lib.hid (HP4.out.app (d := src) hown5 rfl hg5); have q5 : w5.cell? ⟨w.heap.size, 2, none⟩ = some (.slice A2 src.length c2) := HP5.out.box.cell 2))
    clear e2 q4 q5 hwr HPA HP4 HP3 hg4 hg5 hown4 hown5
    generalize hb5 : b3 ++ [UInt8.ofNat src.length] ++ src = b5 at HP5
    have hl5 : b5.length ≤ 47 := by rw [← hb5]; simp; omega
    have HB5 := Lib.hid hb5
    clear hb5
    have e0 : w5.cell? ⟨w.heap.size, 0, none⟩ = some (.int .u8 0) := HP5.out.box.cell 0
    go_upto_region 12 with fail
    clear e0
    have e3 : w5.cell? ⟨w.heap.size, 3, none⟩ = some (.slice A3 tok.length c3) := HP5.out.box.cell 3
    have hwu : IntKind.u64.wrap (tok.length : Int) = (tok.length : Int) := IntWalk.u64_in _ ⟨by omega, by omega⟩
    have hze : (enc tok.length).length ≤ 8 := by rw [enc_length]; exact szN_le _
    have HST := Lib.hid (short_some (n := tok.length) (by omega))
    go_region_held3 (fun w' => w'.cell? ⟨w.heap.size, 3, none⟩ = some (.slice A3 tok.length c3)) (go_keep)
      (first
        | (go_simp; go_at_call 19; refine (HST.out _).mono ?_; rintro e w6 ⟨A6, q6, rfl, hq6, hm6, hown6, hb6⟩; have HP6 := Lib.hid (HP5.out.drew.beside hb6); have HS6 := Lib.hid (Sv.of_own hown6); have q6 : w6.cell? ⟨w.heap.size, 3, none⟩ = some (.slice A3 tok.length c3) := HP6.out.box.cell 3; clear hown6 hb6 hq6)
        | (refine step_app_sv rfl (.tmp 63) (.tmp 68) 22 rfl (w.heap.size + 1) 5 i0 _ 1 Tryd.underlying22 hi0 hz0 hz1 hz2 rfl v5 _ _ rfl HP6.out.own w6.heap.size A6 (enc tok.length).length _ ((enc tok.length).map cell8) rfl HS6.out (by simp) (cell8_one _) (by unfold maxLen; omega) (by omega) HP6.out.hBw ?_; intro v7 w7 hown7 hg7; have HP7 := Lib.hid (HP6.out.app (d := enc tok.length) hown7 rfl hg7); have q7 : w7.cell? ⟨w.heap.size, 3, none⟩ = some (.slice A3 tok.length c3) := HP7.out.box.cell 3)
        | (refine step_app_sv rfl (.tmp 69) (.tmp 71) 22 rfl (w.heap.size + 1) 5 i0 _ 1 Tryd.underlying22 hi0 hz0 hz1 hz2 rfl v7 _ _ rfl HP7.out.own (w.heap.size + 1) _ tok.length _ (tok.map cell8) rfl (HP7.out.sl H3.out) (by simp) (cell8_one tok) (by unfold maxLen; simp; omega) (by simp; omega) HP7.out.hBw ?_; intro v8 w8 hown8 hg8; have HP8 := Lib.hid (HP7.out.app (d := tok) hown8 rfl hg8); have q8 : w8.cell? ⟨w.heap.size, 3, none⟩ = some (.slice A3 tok.length c3) := HP8.out.box.cell 3))
    clear q6 q7 q8 hwu HST HP6 HP7 HS6 hg7 hg8 hown7 hown8 e3
    generalize hb8 : b5 ++ enc tok.length ++ tok = b8 at HP8
    have hl8 : b8.length ≤ 3060 := by rw [← hb8]; simp; omega
    have HB8 := Lib.hid hb8
    clear hb8
    go_upto_region 13 with fail
    have e6 : w8.cell? ⟨w.heap.size, 6, none⟩ = some (.int .i64 (k : Int)) := HP8.out.box.cell 6
    have hzn : (enc (k + n)).length ≤ 8 := by rw [enc_length]; exact szN_le _
    have HSN : Hid (∀ w, Calls Tryd.prog 19 #[.int .u64 ((k : Int) + (n : Int))] w (Gave w (enc (k + n)) fun v => v)) := by
      intro w
      have h := short_some (n := k + n) (by omega) w
      rw [show ((k + n : Nat) : Int) = (k : Int) + (n : Int) by omega] at h
      exact h
    go_upto_region 14 with (first
      | (go_at_call 19; refine (HSN.out _).mono ?_; rintro e wa ⟨Aa, qa, rfl, hqa, hma, howna, hba⟩; have HPa := Lib.hid (HP8.out.beside hba); have HSa := Lib.hid (Sv.of_own howna); clear howna hba hqa)
      | (at_builtin; refine wpList_append_sv _ rfl _ _ _ rfl (w.heap.size + 1) 5 i0 _ 1 Tryd.underlying22 hi0 hz0 hz1 hz2 rfl v8 _ _ rfl HPa.out.own wa.heap.size Aa (enc (k + n)).length _ ((enc (k + n)).map cell8) rfl HSa.out (by simp) (cell8_one _) (by unfold maxLen; omega) (by omega) HPa.out.hBw ?_; intro vb wb hownb hgb _))
    have HPb := Lib.hid (HPa.out.app (d := enc (k + n)) hownb rfl hgb)
    clear hownb hgb HPa HSa e6 HSN HP8
    generalize hbb : b8 ++ enc (k + n) = bb at HPb
    have hlb : bb.length ≤ 3100 := by rw [← hbb]; simp; omega
    have HBB := Lib.hid hbb
    clear hbb
    have e5 : wb.cell? ⟨w.heap.size, 5, none⟩ = some (.int .u64 (pn : Int)) := HPb.out.box.cell 5
    have e6 : wb.cell? ⟨w.heap.size, 6, none⟩ = some (.int .i64 (k : Int)) := HPb.out.box.cell 6
    have HLW := Lib.hid (fun w => low_any pn k w hk4 hpn)
    have hbe : (be pn k).length ≤ 4 := by rw [be_length]; exact hk4
    go_wp2_with (first
      | (go_at_call 18; refine (HLW.out _).mono ?_; rintro e wc ⟨Ac, qc, rfl, hqc, hmc, hownc, hbc⟩; have HPc := Lib.hid (HPb.out.beside hbc); have HSc := Lib.hid (Sv.of_own hownc); clear hownc hbc hqc)
      | (at_builtin; refine wpList_append_sv _ rfl _ _ _ rfl (w.heap.size + 1) 5 i0 _ 1 Tryd.underlying22 hi0 hz0 hz1 hz2 rfl vb _ _ rfl HPc.out.own wc.heap.size Ac (be pn k).length _ ((be pn k).map cell8) rfl HSc.out (by simp) (cell8_one _) (by unfold maxLen; omega) (by omega) HPc.out.hBw ?_; intro vd wd hownd hgd _))
    have hpd := HPc.out.app (d := be pn k) hownd rfl hgd
    have hhd : HD = bb ++ be pn k := by
      rw [HH.out, ← HBB.out, ← HB8.out, ← HB5.out, ← HB3.out]
      simp
    rw [← hhd] at hpd
    obtain ⟨Ad, cd, rfl, p1, p2⟩ := own_form hpd.own
    go_ret
    exact ⟨Ad, cd, rfl, p1, p2, own_base hpd.own (Nat.le_succ _), HB0.out.trans (hpd.bel.mono (Nat.le_succ _))⟩
  · go_upto_region 9 with fail
    change Code.wp _ _ _ _ (w.alloc (.cells (headC 1 A1 dst.length c1 A2 src.length c2 A3 tok.length c3 false (pn : Int) (k : Int)) 25))
    generalize (w.alloc (.cells (headC 1 A1 dst.length c1 A2 src.length c2 A3 tok.length c3 false (pn : Int) (k : Int)) 25)) = w0 at *
    have hP : PB w0 (w0.alloc (.cells #[.int .u8 (192 + (k : Int) - 1 + 32), .int .u8 0, .int .u8 0, .int .u8 0, .int .u8 1, .int .u8 (dst.length : Int)] 5)) (w.heap.size + 1) w.heap.size (headC 1 A1 dst.length c1 A2 src.length c2 A3 tok.length c3 false (pn : Int) (k : Int)) (.slice (some ⟨w.heap.size + 1, 0, none⟩) 6 6) [UInt8.ofNat (191 + k + 32 * 1), 0, 0, 0, 1, UInt8.ofNat dst.length] := by
      have ho := own_lit (w := w0) (B := w.heap.size + 1) #[.int .u8 (192 + (k : Int) - 1 + 32), .int .u8 0, .int .u8 0, .int .u8 0, .int .u8 1, .int .u8 (dst.length : Int)] [UInt8.ofNat (191 + k + 32 * 1), 0, 0, 0, 1, UInt8.ofNat dst.length] 6 (by omega) (by
        simp only [List.map_cons, List.map_nil]
        rw [← byte_len (191 + k + 32 * 1) (by omega), ← byte_len dst.length (by omega)]
        rw [show (192 + (k : Int) - 1 + 32 : Int) = ((191 + k + 32 * 1 : Nat) : Int) by omega]
        rfl) rfl (by omega)
      rw [hz] at ho
      exact ⟨ho, (Below.refl _ _).alloc (by omega) _, HW0.out.alloc _, own_type ho (HW0.out.alloc _) (by decide), by omega⟩
    have HP := Lib.hid hP
    have e1 : w0.cell? ⟨w.heap.size, 1, none⟩ = some (.slice A1 dst.length c1) := HW0.out.cell 1
    clear hP
    go_upto_region 10 with (at_builtin; refine wpList_append_sv _ rfl _ _ _ rfl (w.heap.size + 1) 5 i0 _ 1 Tryd.underlying22 hi0 hz0 hz1 hz2 rfl (.slice (some ⟨w.heap.size + 1, 0, none⟩) 6 6) _ _ rfl HP.out.own (w.heap.size + 1) _ dst.length _ (dst.map cell8) rfl (HP.out.sl H1.out) (by simp) (cell8_one dst) (by unfold maxLen; simp; omega) (by simp; omega) HP.out.hBw ?_; intro v3 w3 hown3 hg3 _)
    have HP3 := Lib.hid (HP.out.app (d := dst) hown3 rfl hg3)
    clear hown3 hg3 HP e1
    generalize hb3 : [UInt8.ofNat (191 + k + 32 * 1), 0, 0, 0, 1, UInt8.ofNat dst.length] ++ dst = b3 at HP3
    have hl3 : b3.length ≤ 26 := by rw [← hb3]; simp; omega
    have HB3 := Lib.hid hb3
    clear hb3
    have e2 : w3.cell? ⟨w.heap.size, 2, none⟩ = some (.slice A2 src.length c2) := HP3.out.box.cell 2
    have hwr : IntKind.u8.wrap (src.length : Int) = (src.length : Int) := by simp [IntKind.wrap, IntKind.signed, IntKind.bits]; omega
    have HPA := Lib.hid ((HP3.out.alloc (.cells #[.int .u8 (src.length : Int)] 5)).drew)
    go_region_held3 (fun w' => w'.cell? ⟨w.heap.size, 2, none⟩ = some (.slice A2 src.length c2)) (go_keep)
      (first
        | (refine step_app_sv rfl (.tmp 50) (.tmp 55) 22 rfl (w.heap.size + 1) 5 i0 _ 1 Tryd.underlying22 hi0 hz0 hz1 hz2 rfl v3 _ _ rfl HPA.out.own _ _ 1 1 _ rfl (sv_new _ _ _) rfl (fun u hu => by simp at hu; subst hu; rfl) (by unfold maxLen; omega) (by omega) HPA.out.hBw ?_; intro v4 w4 hown4 hg4; rw [byte_len _ (by omega)] at hown4; have HP4 := Lib.hid (HPA.out.app (d := [UInt8.ofNat src.length]) hown4 rfl hg4); have q4 : w4.cell? ⟨w.heap.size, 2, none⟩ = some (.slice A2 src.length c2) := HP4.out.box.cell 2)
        | (refine step_app_sv rfl (.tmp 56) (.tmp 58) 22 rfl (w.heap.size + 1) 5 i0 _ 1 Tryd.underlying22 hi0 hz0 hz1 hz2 rfl v4 _ _ rfl HP4.out.own (w.heap.size + 1) _ src.length _ (src.map cell8) rfl (HP4.out.sl H2.out) (by simp) (cell8_one src) (by unfold maxLen; simp; omega) (by simp; omega) HP4.out.hBw ?_; intro v5 w5 hown5 hg5; have HP5 := Lib.hid (HP4.out.app (d := src) hown5 rfl hg5); have q5 : w5.cell? ⟨w.heap.size, 2, none⟩ = some (.slice A2 src.length c2) := HP5.out.box.cell 2))
    clear e2 q4 q5 hwr HPA HP4 HP3 hg4 hg5 hown4 hown5
    generalize hb5 : b3 ++ [UInt8.ofNat src.length] ++ src = b5 at HP5
    have hl5 : b5.length ≤ 47 := by rw [← hb5]; simp; omega
    have HB5 := Lib.hid hb5
    clear hb5
    have e0 : w5.cell? ⟨w.heap.size, 0, none⟩ = some (.int .u8 1) := HP5.out.box.cell 0
    go_upto_region 13 with fail
    clear e0
    have e6 : w5.cell? ⟨w.heap.size, 6, none⟩ = some (.int .i64 (k : Int)) := HP5.out.box.cell 6
    have hzn : (enc (k + n)).length ≤ 8 := by rw [enc_length]; exact szN_le _
    have HSN : Hid (∀ w, Calls Tryd.prog 19 #[.int .u64 ((k : Int) + (n : Int))] w (Gave w (enc (k + n)) fun v => v)) := by
      intro w
      have h := short_some (n := k + n) (by omega) w
      rw [show ((k + n : Nat) : Int) = (k : Int) + (n : Int) by omega] at h
      exact h
    go_upto_region 14 with (first
      | (go_at_call 19; refine (HSN.out _).mono ?_; rintro e wa ⟨Aa, qa, rfl, hqa, hma, howna, hba⟩; have HPa := Lib.hid (HP5.out.beside hba); have HSa := Lib.hid (Sv.of_own howna); clear howna hba hqa)
      | (at_builtin; refine wpList_append_sv _ rfl _ _ _ rfl (w.heap.size + 1) 5 i0 _ 1 Tryd.underlying22 hi0 hz0 hz1 hz2 rfl v5 _ _ rfl HPa.out.own wa.heap.size Aa (enc (k + n)).length _ ((enc (k + n)).map cell8) rfl HSa.out (by simp) (cell8_one _) (by unfold maxLen; omega) (by omega) HPa.out.hBw ?_; intro vb wb hownb hgb _))
    have HPb := Lib.hid (HPa.out.app (d := enc (k + n)) hownb rfl hgb)
    clear hownb hgb HPa HSa e6 HSN HP5
    generalize hbb : b5 ++ enc (k + n) = bb at HPb
    have hlb : bb.length ≤ 3100 := by rw [← hbb]; simp; omega
    have HBB := Lib.hid hbb
    clear hbb
    have e5 : wb.cell? ⟨w.heap.size, 5, none⟩ = some (.int .u64 (pn : Int)) := HPb.out.box.cell 5
    have e6 : wb.cell? ⟨w.heap.size, 6, none⟩ = some (.int .i64 (k : Int)) := HPb.out.box.cell 6
    have HLW := Lib.hid (fun w => low_any pn k w hk4 hpn)
    have hbe : (be pn k).length ≤ 4 := by rw [be_length]; exact hk4
    go_wp2_with (first
      | (go_at_call 18; refine (HLW.out _).mono ?_; rintro e wc ⟨Ac, qc, rfl, hqc, hmc, hownc, hbc⟩; have HPc := Lib.hid (HPb.out.beside hbc); have HSc := Lib.hid (Sv.of_own hownc); clear hownc hbc hqc)
      | (at_builtin; refine wpList_append_sv _ rfl _ _ _ rfl (w.heap.size + 1) 5 i0 _ 1 Tryd.underlying22 hi0 hz0 hz1 hz2 rfl vb _ _ rfl HPc.out.own wc.heap.size Ac (be pn k).length _ ((be pn k).map cell8) rfl HSc.out (by simp) (cell8_one _) (by unfold maxLen; omega) (by omega) HPc.out.hBw ?_; intro vd wd hownd hgd _))
    have hpd := HPc.out.app (d := be pn k) hownd rfl hgd
    have hhd : HD = bb ++ be pn k := by
      rw [HH.out, ← HBB.out, ← HB5.out, ← HB3.out]
      simp
    rw [← hhd] at hpd
    obtain ⟨Ad, cd, rfl, p1, p2⟩ := own_form hpd.own
    go_ret
    exact ⟨Ad, cd, rfl, p1, p2, own_base hpd.own (Nat.le_succ _), HB0.out.trans (hpd.bel.mono (Nat.le_succ _))⟩

end Go.Proofs.YtpicigcmijbppaaDoor
