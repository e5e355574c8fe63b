/-
  The document's own Seal (hostlerref10). Printed by tools/gen_kprseal.py.
-/
import Derived.Test.YtblclinfcdalaaaDoorKpSeal
import Derived.Test.YtblclinfcdalaaaDoorSb43
import Derived.Test.YtblclinfcdalaaaDoorSb45
import Derived.Test.YtblclinfcdalaaaDoorHRefMay
import Derived.Test.YtblclinfcdalaaaDoorSb48
namespace Go.Proofs.YtblclinfcdalaaaDoor
open Go.RowKit
set_option linter.unusedVariables false

theorem Sy.thereM {w : World} {lo : Nat} {A : Option Addr} {l : List UInt8} (h : Sy w lo A (l.map cell8)) (hn : 0 < l.length) : ∃ b off, A = some ⟨b, off, none⟩ ∧ lo ≤ b ∧ b < w.heap.size ∧ w.rangeAt b off (l.map cell8) := by
  obtain ⟨b, off, hA, h1, h2, h3⟩ := h (by intro e; have : l.length = 0 := by simpa using congrArg List.length e
                                           omega)
  exact ⟨b, off, hA, h1, h2, fun j v hv => h3 j v hv⟩

set_option maxRecDepth 100000 in
set_option maxHeartbeats 1600000 in
theorem rkseal_bad (k : KS) (sp pn : Nat) (dst src tok pl : List UInt8) (ph : Bool) (pnb : Int) (A1 : Option Addr) (c1 : Nat) (A2 : Option Addr) (c2 : Nat) (A3 : Option Addr) (c3 : Nat) (A : Option Addr) (c : Nat) (w : World) (hn : pl.length ≤ 140737488351232)
    (hbad : ¬ (mayB sp dst.length src.length tok.length ph (pn : Int) pnb = true ∧ 4 ≤ pnb + pl.length)) :
    Calls Tryd.prog 16 #[.agg (kyRow k), .agg (headC sp A1 dst.length c1 A2 src.length c2 A3 tok.length c3 ph (pn : Int) pnb), .slice A pl.length c] w fun e w' => e = .returned (.tuple #[.slice none 0 0, .int .i64 2]) ∧ Below w.heap.size w w' := by
  obtain ⟨hbe, h2, h3, h4⟩ := made2K w (kyRow k) (headC sp A1 dst.length c1 A2 src.length c2 A3 tok.length c3 ph (pn : Int) pnb) 29 39
  have HM := Lib.hid (rmay_any sp dst.length src.length tok.length ph A1 c1 A2 c2 A3 c3 (pn : Int) pnb)
  have hcase : mayB sp dst.length src.length tok.length ph (pn : Int) pnb = false ∨ (mayB sp dst.length src.length tok.length ph (pn : Int) pnb = true ∧ pnb + pl.length < 4 ∧ 1 ≤ pnb) := by
    cases hm : mayB sp dst.length src.length tok.length ph (pn : Int) pnb
    · exact .inl rfl
    · obtain ⟨f1, f2, f3, f4, f5, f6, f7, f8, f9⟩ := may_facts hm
      rw [hm] at hbad
      refine .inr ⟨rfl, ?_, by omega⟩
      by_cases h0 : pnb + pl.length < 4
      · exact h0
      · exact absurd ⟨rfl, by omega⟩ hbad
  have HIR := Lib.hid (info_headR sp A1 dst.length c1 A2 src.length c2 A3 tok.length c3 ph (pn : Int) pnb)
  have hr6 : (headC sp A1 dst.length c1 A2 src.length c2 A3 tok.length c3 ph (pn : Int) pnb)[6]? = some (.int .i64 pnb) := rfl
  clear hbad
  generalize mayB sp dst.length src.length tok.length ph (pn : Int) pnb = mb at *
  generalize headC sp A1 dst.length c1 A2 src.length c2 A3 tok.length c3 ph (pn : Int) pnb = R at *
  go_enter Tryd.func16, Tryd.ntmps16
  go_upto_region 1 with (fail)
  generalize (w.alloc (.cells (kyRow k) 29)).alloc (.cells R 39) = W at *
  obtain ⟨b, hb⟩ : ∃ b, b = w.heap.size := ⟨_, rfl⟩
  rw [← hb]
  rw [← hb] at h2 h3
  obtain ⟨h, hh⟩ : ∃ h, h = b + 1 := ⟨_, rfl⟩
  rw [← hh] at h3 ⊢
  have H3 := Lib.hid h3
  have HBE := Lib.hid hbe
  have HR6 := Lib.hid hr6
  clear hb hh h2 h3 h4 hbe hr6
  go_wp2_with (refine wpList_load_row rfl 39 (.tmp 4) rfl h rfl _ R _ _ H3.out Tryd.underlying39 rfl HIR.out ?_)
  refine (HM.out W).mono ?_
  rintro e w1 ⟨rfl, hb1⟩
  have hc6 : w1.cell? ⟨h, 6, none⟩ = some (.int .i64 pnb) := ((H3.out.below hb1 H3.out.lt).cell 6).trans HR6.out
  have HB1 := Lib.hid (HBE.out.trans (hb1.mono HBE.out.size))
  clear hb1 H3 HBE HR6 HIR HM
  rcases hcase with rfl | ⟨rfl, h0, h1⟩
  · go_wp2
    go_ret2
    exact ⟨rfl, HB1.out⟩
  · have hn0 : pl.length ≤ 3 := by omega
    have hd : decide (pnb + (pl.length : Int) < 4) = true := decide_eq_true (by omega)
    have hp4 : pnb ≤ 3 := by omega
    go_wp2
    all_goals
      go_ret2
      exact ⟨rfl, HB1.out⟩

set_option maxRecDepth 100000 in
set_option maxHeartbeats 1600000 in
theorem rkseal_long (k : KS) (sp pn : Nat) (dst src tok pl : List UInt8) (ph : Bool) (pnb : Int) (A1 : Option Addr) (c1 : Nat) (A2 : Option Addr) (c2 : Nat) (A3 : Option Addr) (c3 : Nat) (A : Option Addr) (c : Nat) (w : World) (hn : pl.length ≤ 140737488351232)
    (hmay : mayB sp dst.length src.length tok.length ph (pn : Int) pnb = true) (hlong : 60000 < pl.length) :
    Calls Tryd.prog 16 #[.agg (kyRow k), .agg (headC sp A1 dst.length c1 A2 src.length c2 A3 tok.length c3 ph (pn : Int) pnb), .slice A pl.length c] w fun e w' => e = .returned (.tuple #[.slice none 0 0, .int .i64 3]) ∧ Below w.heap.size w w' := by
  obtain ⟨hbe, h2, h3, h4⟩ := made2K w (kyRow k) (headC sp A1 dst.length c1 A2 src.length c2 A3 tok.length c3 ph (pn : Int) pnb) 29 39
  have hmy := rmay_any sp dst.length src.length tok.length ph A1 c1 A2 c2 A3 c3 (pn : Int) pnb
  rw [hmay] at hmy
  have HM := Lib.hid hmy
  obtain ⟨f1, f2, f3, f4, f5, f6, f7, f8, f9⟩ := may_facts hmay
  have HIR := Lib.hid (info_headR sp A1 dst.length c1 A2 src.length c2 A3 tok.length c3 ph (pn : Int) pnb)
  have hr6 : (headC sp A1 dst.length c1 A2 src.length c2 A3 tok.length c3 ph (pn : Int) pnb)[6]? = some (.int .i64 pnb) := rfl
  clear hmay hmy f1 f2 f5 f6 f7 f8 f9
  generalize headC sp A1 dst.length c1 A2 src.length c2 A3 tok.length c3 ph (pn : Int) pnb = R at *
  go_enter Tryd.func16, Tryd.ntmps16
  go_upto_region 1 with (fail)
  generalize (w.alloc (.cells (kyRow k) 29)).alloc (.cells R 39) = W at *
  obtain ⟨b, hb⟩ : ∃ b, b = w.heap.size := ⟨_, rfl⟩
  rw [← hb]
  rw [← hb] at h2 h3
  obtain ⟨h, hh⟩ : ∃ h, h = b + 1 := ⟨_, rfl⟩
  rw [← hh] at h3 ⊢
  have H3 := Lib.hid h3
  have HBE := Lib.hid hbe
  have HR6 := Lib.hid hr6
  clear hb hh h2 h3 h4 hbe hr6
  go_wp2_with (refine wpList_load_row rfl 39 (.tmp 4) rfl h rfl _ R _ _ H3.out Tryd.underlying39 rfl HIR.out ?_)
  refine (HM.out W).mono ?_
  rintro e w1 ⟨rfl, hb1⟩
  have hc6 : w1.cell? ⟨h, 6, none⟩ = some (.int .i64 pnb) := ((H3.out.below hb1 H3.out.lt).cell 6).trans HR6.out
  have HB1 := Lib.hid (HBE.out.trans (hb1.mono HBE.out.size))
  clear hb1 H3 HBE HR6 HIR HM
  have hd : decide (pnb + (pl.length : Int) < 4) = false := decide_eq_false (by omega)
  have hd2 : decide ((60000 : Int) < (pl.length : Int)) = true := decide_eq_true (by omega)
  go_wp2
  all_goals
    go_ret2
    exact ⟨rfl, HB1.out⟩

set_option maxRecDepth 100000 in
set_option maxHeartbeats 3200000 in
theorem rkseal_in (k : KS) (sp n pn : Nat) (dst src tok pl : List UInt8) (ph : Bool) (A1 : Option Addr) (c1 : Nat) (A2 : Option Addr) (c2 : Nat) (A3 : Option Addr) (c3 : Nat) (A : Option Addr) (c : Nat) (w : World)
    (hk : k.Ok) (hmay : mayB sp dst.length src.length tok.length ph (pn : Int) (n : Int) = true) (h4 : 4 ≤ n + pl.length) (hpl : pl.length ≤ 60000) (hlc : pl.length ≤ c) (hcm : c ≤ maxLen) (ht : tok.length ≤ 3000)
    (hs1 : Sl w w.heap.size A1 dst) (hs2 : Sl w w.heap.size A2 src) (hs3 : Sl w w.heap.size A3 tok) (hs : Sl w w.heap.size A pl) :
    Calls Tryd.prog 16 #[.agg (kyRow k), .agg (headC sp A1 dst.length c1 A2 src.length c2 A3 tok.length c3 ph (pn : Int) (n : Int)), .slice A pl.length c] w
      (Gave w (packK k sp n pn (headB sp n dst src tok ph pn (pl.length + 16)) pl) fun v => .tuple #[v, .int .i64 0]) := by
  obtain ⟨i0, hi0, hz0, hz1, hz2⟩ := info_parts info8
  have HK := Deep.mk hk
  obtain ⟨hbe, h2, h3, hsz⟩ := made2K w (kyRow k) (headC sp A1 dst.length c1 A2 src.length c2 A3 tok.length c3 ph (pn : Int) (n : Int)) 29 39
  have hmy := rmay_any sp dst.length src.length tok.length ph A1 c1 A2 c2 A3 c3 (pn : Int) (n : Int)
  rw [hmay] at hmy
  have HM := Lib.hid hmy
  obtain ⟨f1, f2, f3, f4, f5, f6, f7, f8, f9⟩ := may_facts hmay
  have HIR := Lib.hid (info_headR sp A1 dst.length c1 A2 src.length c2 A3 tok.length c3 ph (pn : Int) (n : Int))
  have hr6 : (headC sp A1 dst.length c1 A2 src.length c2 A3 tok.length c3 ph (pn : Int) (n : Int))[6]? = some (.int .i64 (n : Int)) := rfl
  have hr5 : (headC sp A1 dst.length c1 A2 src.length c2 A3 tok.length c3 ph (pn : Int) (n : Int))[5]? = some (.int .u64 (pn : Int)) := rfl
  have hr0 : (headC sp A1 dst.length c1 A2 src.length c2 A3 tok.length c3 ph (pn : Int) (n : Int))[0]? = some (.int .u8 (sp : Int)) := rfl
  have hpn : pn ≤ 4611686018427387903 := by omega
  have hn1 : 1 ≤ n := by omega
  have hn4 : n ≤ 4 := by omega
  have HPUT : Hid (∀ w' : World, Sl w' w'.heap.size A1 dst → Sl w' w'.heap.size A2 src → Sl w' w'.heap.size A3 tok → Calls Tryd.prog 39 #[.agg (headC sp A1 dst.length c1 A2 src.length c2 A3 tok.length c3 ph (pn : Int) (n : Int)), .int .i64 ((pl.length : Int) + 16)] w' (Gave w' (headB sp n dst src tok ph pn (pl.length + 16)) fun v => v)) :=
    Lib.hid fun w' q2 q3 q4 => by
      have := refput_any sp n (pl.length + 16) pn dst src tok ph A1 c1 A2 c2 A3 c3 w' hmay (by omega) q2 q3 q4 ht
      rwa [show ((pl.length + 16 : Nat) : Int) = (pl.length : Int) + 16 by omega] at this
  have hhl : n + 1 ≤ (headB sp n dst src tok ph pn (pl.length + 16)).length ∧ (headB sp n dst src tok ph pn (pl.length + 16)).length ≤ 4100 := by
    rw [headB, List.length_cons, List.length_append, be_length]
    refine ⟨by omega, ?_⟩
    have e3 : (longB sp dst src tok (n + (pl.length + 16))).length ≤ 4000 := by
      unfold longB
      have e1 := szN_le tok.length
      have e2 := szN_le (n + (pl.length + 16))
      split <;> simp [enc_length] <;> omega
    split <;> omega
  generalize headB sp n dst src tok ph pn (pl.length + 16) = H at *
  obtain ⟨hh1, hh2⟩ := hhl
  obtain ⟨m, hm⟩ : ∃ m, m = H.length := ⟨_, rfl⟩
  obtain ⟨p, hp⟩ : ∃ p, p = pl.length := ⟨_, rfl⟩
  have hS0 := (Sv.below hs hbe).keep hbe.size (fun _ _ => rfl)
  have hS1 := (Sv.below hs1 hbe).keep hbe.size (fun _ _ => rfl)
  have hS2 := (Sv.below hs2 hbe).keep hbe.size (fun _ _ => rfl)
  have hS3 := (Sv.below hs3 hbe).keep hbe.size (fun _ _ => rfl)
  clear hmay hmy f1 f2 f5 f6 f7 f8 f9 f3 f4 hs hs1 hs2 hs3
  generalize headC sp A1 dst.length c1 A2 src.length c2 A3 tok.length c3 ph (pn : Int) (n : Int) = R at *
  rw [← hp] at h4 hpl hlc HPUT ⊢
  rw [← hm] at hh1 hh2
  have HPL := Deep.mk hp
  have HHM := Deep.mk hm
  clear hp hm ht
  go_enter Tryd.func16, Tryd.ntmps16
  go_upto_region 1 with (fail)
  generalize (w.alloc (.cells (kyRow k) 29)).alloc (.cells R 39) = W at *
  obtain ⟨b, hb⟩ : ∃ b, b = w.heap.size := ⟨_, rfl⟩
  rw [← hb]
  rw [← hb] at h2 h3
  obtain ⟨h, hh⟩ : ∃ h, h = b + 1 := ⟨_, rfl⟩
  rw [← hh] at h3 ⊢
  have hwb : w.heap.size ≤ b := by omega
  have hbh : b < h := by omega
  have H2 := Lib.hid h2
  have H3 := Lib.hid h3
  have HBE := Lib.hid hbe
  have HR6 := Lib.hid hr6
  have HR5 := Lib.hid hr5
  have HR0 := Lib.hid hr0
  have HS0 := Lib.hid hS0
  have HS1 := Lib.hid hS1
  have HS2 := Lib.hid hS2
  have HS3 := Lib.hid hS3
  clear hb hh h2 h3 hsz hbe hr6 hr5 hr0 hS0 hS1 hS2 hS3
  go_wp2_with (refine wpList_load_row rfl 39 (.tmp 4) rfl h rfl _ R _ _ H3.out Tryd.underlying39 rfl HIR.out ?_)
  refine (HM.out W).mono ?_
  rintro e w1 ⟨rfl, hb1⟩
  have hc6 : w1.cell? ⟨h, 6, none⟩ = some (.int .i64 (n : Int)) := ((H3.out.below hb1 H3.out.lt).cell 6).trans HR6.out
  have HB1 := Lib.hid (HBE.out.trans (hb1.mono HBE.out.size))
  have H21 := Lib.hid (H2.out.below hb1 H2.out.lt)
  have H31 := Lib.hid (H3.out.below hb1 H3.out.lt)
  have HS01 := Lib.hid ((Sv.below HS0.out hb1).keep hb1.size (fun _ _ => rfl))
  have HS11 := Lib.hid ((Sv.below HS1.out hb1).keep hb1.size (fun _ _ => rfl))
  have HS21 := Lib.hid ((Sv.below HS2.out hb1).keep hb1.size (fun _ _ => rfl))
  have HS31 := Lib.hid ((Sv.below HS3.out hb1).keep hb1.size (fun _ _ => rfl))
  clear hb1 H2 H3 HBE HM HS0 HS1 HS2 HS3
  have hd : decide ((n : Int) + (p : Int) < 4) = false := decide_eq_false (by omega)
  have hd2 : decide ((60000 : Int) < (p : Int)) = false := decide_eq_false (by omega)
  go_wp2_with (refine wpList_load_row rfl 39 (.tmp 4) rfl h rfl _ R _ _ H31.out Tryd.underlying39 rfl HIR.out ?_)
  refine (HPUT.out w1 HS11.out HS21.out HS31.out).mono ?_
  rintro e w2 ⟨AH, cH, rfl, ha2, hb2c, hown2, hb2⟩
  have hmpos : 0 < H.length := by have := HHM.out; omega
  obtain ⟨hg, capH, eqH, hPq, hge, hcl, hcm2⟩ := Pq.of_own hown2 hmpos
  simp only [Value.slice.injEq] at eqH
  obtain ⟨rfl, hx0, rfl⟩ := eqH
  clear hx0
  rw [← HHM.out] at ha2 hown2
  rw [← HHM.out]
  obtain ⟨a, hax⟩ : ∃ a, a = m - n := ⟨_, rfl⟩
  have ha1 : 1 ≤ a := by omega
  have han : a + n = m := by omega
  have hai : (m : Int) - (n : Int) = (a : Int) := by omega
  have hc62 : w2.cell? ⟨h, 6, none⟩ = some (.int .i64 (n : Int)) := ((H31.out.below hb2 H31.out.lt).cell 6).trans HR6.out
  have hB2 := HB1.out.trans (hb2.mono HB1.out.size)
  have h22 := H21.out.below hb2 H21.out.lt
  have h32 := H31.out.below hb2 H31.out.lt
  have hs02 := (Sv.below HS01.out hb2).keep hb2.size (fun _ _ => rfl)
  have hhw1 : h < w1.heap.size := H31.out.lt
  have HOWN2 := Lib.hid hown2
  have HB2 := Lib.hid hB2
  have H22 := Lib.hid h22
  have H32 := Lib.hid h32
  have HS02 := Lib.hid hs02
  have HHG := Lib.hid (hPq.pb.lt)
  have hw1w : w.heap.size ≤ w1.heap.size := HB1.out.size
  clear hown2 hb2 hB2 h22 h32 hs02 H21 H31 HS01 HS11 HS21 HS31 HB1 hPq hmpos hc6 hax hd hd2 HPUT HIR
  go_upto_region 7 with (fail)
  clear hc62 hai
  have h2' := H22.out.below (Below.refl _ _).drew H22.out.lt
  have h3' := H32.out.below (Below.refl _ _).drew H32.out.lt
  have hB0 : Below w.heap.size w w2.drew := HB2.out.drew
  have hs0 := (Sv.below HS02.out ((Below.refl w2.heap.size _).drew)).keep (Nat.le_refl w2.drew.heap.size) (fun _ _ => rfl)
  have how0 := own_below HOWN2.out ((Below.refl w2.heap.size _).drew)
  have hhg0 : hg < w2.drew.heap.size := HHG.out
  have hw12 : w1.heap.size ≤ w2.drew.heap.size := Nat.le_of_lt (Nat.lt_of_le_of_lt hge hhg0)
  clear H22 H32 HB2 HS02 HOWN2 HHG
  refine wp_region_held_drew (S := fun w' => SinceK w2.drew w') (by kernel_rfl) (SinceK.self _) (fun _ => ?_)
  generalize w2.drew = w0 at *
  have rk := ky_key h2' HK.out
  have rrow := Wh.wholeK h2'
  have lb0 := h2'.lt
  have lh0 := h3'.lt
  have hc5 := (h3'.cell 5).trans HR5.out
  have hkl := HK.out.key
  have hil := HK.out.iv
  have hno : ∀ w' : World, Calls Tryd.prog 43 #[.agg (kyRow k), .int .u64 (pn : Int)] w' (GaveN w' 12 (nonK k.iv pn)) := fun w' => rnonce_any k pn w' HK.out (by omega)
  have hnl := nonK_len hil pn
  have hraw : rawK k pn H pl = H ++ sealK k.key (nonK k.iv pn) H pl := rfl
  have hsel := sealK_len k.key (nonK k.iv pn) H pl
  have hse : ∀ (w' : World) (Ab Aw A4 : Option Addr) (cb cw c4 : Nat) (hKI : KeyIs w' w'.heap.size Ab Aw k.key) (h0 : Sl w' w'.heap.size A4 (nonK k.iv pn)) (h1 : Sl w' w'.heap.size (some ⟨hg, 0, none⟩) H) (h2 : Sl w' w'.heap.size A pl), Calls Tryd.prog 42 #[.agg (kRow Ab Aw cb cw), .slice A4 12 c4, .slice (some ⟨hg, 0, none⟩) m cH, .slice A p c] w' (GaveN w' (p + 16) (sealK k.key (nonK k.iv pn) H pl)) :=
    fun w' Ab Aw A4 cb cw c4 hKI h0 h1 h2 => rgseal_any k.key (nonK k.iv pn) H pl Ab Aw A4 _ A cb cw c4 cH c w'.heap.size m p w' (Nat.le_refl _) hkl hKI hnl h0 h1 HHM.out.symm (by omega) h2 HPL.out.symm (by omega)
  generalize nonK k.iv pn = N at *
  generalize sealK k.key N H pl = BX at *
  rw [← HPL.out] at hsel
  have HNO := Lib.hid hno
  have HSE := Lib.hid hse
  have HRAW := Deep.mk hraw
  have HSEL := Deep.mk hsel
  have HNL := Deep.mk hnl
  have HKL := Deep.mk hkl
  have HC5 := Lib.hid hc5
  have hHl : (H.map cell8).length = m := by rw [List.length_map, ← HHM.out]
  have HHL8 := Deep.mk hHl
  clear hno hse hraw hsel hnl hkl hil hc5 hHl
  refine wpAnyH_take (i := 1) (v := .slice (some ⟨hg, 0, none⟩) m cH) (List.getElem?_toArray.trans rfl) (by kernel_rfl) (by kernel_rfl) (by kernel_rfl) (fun _ _ _ h => h) (.inl ⟨rfl, fun w' hS => rfl⟩) (SinceK.self _) ?_
  refine act_normS (by simp only [Act.put, List.setIfInBounds_toArray, List.set_cons_zero, List.set_cons_succ]; rfl) ?_
  refine wpAnyH_take (i := 3) (v := .pointer (some ⟨b, 32, none⟩)) (List.getElem?_toArray.trans rfl) (by kernel_rfl) (by kernel_rfl) (by kernel_rfl) (fun _ _ _ h => h) (.inl ⟨rfl, fun w' hS => by simp [go_sem]⟩) (SinceK.self _) ?_
  refine act_normS (by simp only [Act.put, List.setIfInBounds_toArray, List.set_cons_zero, List.set_cons_succ]; rfl) ?_
  refine wpAnyH_take (i := 4) (v := .agg (aRow k.key)) (List.getElem?_toArray.trans rfl) (by kernel_rfl) (by kernel_rfl) (by kernel_rfl) (fun _ _ _ h => h) (yieldsIf_load_mid (by rfl) 26 (.tmp 40) rfl b 32 rfl (k.key.map cell8) _ (fun w' hS => SinceK.range hS rk lb0) Tryd.underlying26 rfl (by rw [List.length_map, HKL.out]; exact info_k16)) (SinceK.self _) ?_
  refine act_normS (by simp only [Act.put, List.setIfInBounds_toArray, List.set_cons_zero, List.set_cons_succ]; rfl) ?_
  refine wpAnyH_take (i := 7) (v := .agg (kyRow k)) (List.getElem?_toArray.trans rfl) (by kernel_rfl) (by kernel_rfl) (by kernel_rfl) (fun _ _ _ h => h) (yieldsIf_load_mid (by rfl) 29 (.tmp 3) rfl b 0 rfl (kyL k) _ (fun w' hS => SinceK.range hS rrow lb0) Tryd.underlying29 rfl (info_kyL HK.out)) (SinceK.self _) ?_
  refine act_normS (by simp only [Act.put, List.setIfInBounds_toArray, List.set_cons_zero, List.set_cons_succ]; rfl) ?_
  refine wpAnyH_take (i := 8) (v := .pointer (some ⟨h, 5, none⟩)) (List.getElem?_toArray.trans rfl) (by kernel_rfl) (by kernel_rfl) (by kernel_rfl) (fun _ _ _ h => h) (.inl ⟨rfl, fun w' hS => by simp [go_sem]⟩) (SinceK.self _) ?_
  refine act_normS (by simp only [Act.put, List.setIfInBounds_toArray, List.set_cons_zero, List.set_cons_succ]; rfl) ?_
  refine wpAnyH_take (i := 9) (v := .int .u64 (pn : Int)) (List.getElem?_toArray.trans rfl) (by kernel_rfl) (by kernel_rfl) (by kernel_rfl) (fun _ _ _ h => h) (.inl ⟨rfl, fun w' hS => by have hc := (World.cell?_of_block (hS.block h lh0)).trans HC5.out; simp [go_sem, hc]⟩) (SinceK.self _) ?_
  refine act_normS (by simp only [Act.put, List.setIfInBounds_toArray, List.set_cons_zero, List.set_cons_succ]; rfl) ?_
  refine wpAnyH_take (i := 11) (v := .slice (some ⟨hg, 0, none⟩) m cH) (List.getElem?_toArray.trans rfl) (by kernel_rfl) (by kernel_rfl) (by kernel_rfl) (fun _ _ _ h => h) (.inl ⟨rfl, fun w' hS => rfl⟩) (SinceK.self _) ?_
  refine act_normS (by simp only [Act.put, List.setIfInBounds_toArray, List.set_cons_zero, List.set_cons_succ]; rfl) ?_
  refine wpAnyH_take (i := 12) (v := .slice A p c) (List.getElem?_toArray.trans rfl) (by kernel_rfl) (by kernel_rfl) (by kernel_rfl) (fun _ _ _ h => h) (.inl ⟨rfl, fun w' hS => rfl⟩) (SinceK.self _) ?_
  refine act_normS (by simp only [Act.put, List.setIfInBounds_toArray, List.set_cons_zero, List.set_cons_succ]; rfl) ?_
  refine wpAnyH_ready (rs := [0]) (by kernel_rfl) (by simp) (AllReadyH.cons (List.getElem?_toArray.trans rfl) (fun K' hK => ?_) AllReadyH.nil)
  refine wanted_goS rfl ?_
  go_simp
  have hS1 : SinceK w0 (w0.alloc (.cells #[] 5)) := (Below.refl _ _).alloc (Nat.le_refl _) _
  have ho1 := own_none w0 5
  have how1 := own_below how0 hS1
  refine hK.out _ _ hS1 (fun _ => ?_)
  clear hK K'
  refine wpAnyH_ready (rs := [2]) (by kernel_rfl) (by simp) (AllReadyH.cons (List.getElem?_toArray.trans rfl) (fun K' hK => ?_) AllReadyH.nil)
  refine step_app_sv rfl (.tmp 37) (.tmp 38) _ rfl w0.heap.size 5 i0 _ 1 Tryd.underlying23 hi0 hz0 hz1 hz2 rfl (.slice (some ⟨w0.heap.size, 0, none⟩) 0 0) 0 [] rfl ho1 _ (some ⟨hg, 0, none⟩) m cH (H.map cell8) rfl (Sv.of_own how1) HHL8.out (cell8_one _) (by unfold maxLen; omega) (by omega) hS1.size ?_
  intro v3 w3 ho3 hg3
  rw [Nat.zero_add, List.nil_append] at ho3
  have hS3 : SinceK w0 w3 := Below.grown hS1 hg3 hS1.size (fun q hq => (ho1.lt q hq).1)
  obtain ⟨A3v, c3v, rfl, h3a, h3b⟩ := own_form ho3
  refine hK.out _ _ hS3 (fun _ => ?_)
  clear hK K'
  refine wpAnyH_ready (rs := [5]) (by kernel_rfl) (by simp) (AllReadyH.cons (List.getElem?_toArray.trans rfl) (fun K' hK => ?_) AllReadyH.nil)
  refine wanted_goS rfl ?_
  go_simp
  refine (rrow_any k.key w3 HKL.out).mono ?_
  rintro e w4 ⟨A4, c4, rfl, ha4, hc4, ho4, hb4⟩
  have hS4 := SinceK.trans hS3 hb4
  have ho34 := own_below ho3 hb4
  refine hK.out _ _ hS4 (fun _ => ?_)
  clear hK K'
  refine wpAnyH_ready (rs := [6]) (by kernel_rfl) (by simp) (AllReadyH.cons (List.getElem?_toArray.trans rfl) (fun K' hK => ?_) AllReadyH.nil)
  refine wanted_goS rfl ?_
  go_simp
  refine (rnew_any k.key A4 c4 w4.heap.size w4 (Nat.le_refl _) HKL.out (Sv.of_own ho4)).mono ?_
  rintro e w5 ⟨Ab, Aw, cb, cw, rfl, hK5, hb5⟩
  have hS5 := SinceK.trans hS4 hb5
  have ho35 := own_below ho34 hb5
  refine hK.out _ _ hS5 (fun _ => ?_)
  clear hK K'
  refine wpAnyH_ready (rs := [10]) (by kernel_rfl) (by simp) (AllReadyH.cons (List.getElem?_toArray.trans rfl) (fun K' hK => ?_) AllReadyH.nil)
  refine wanted_goS rfl ?_
  go_simp
  refine (HNO.out w5).mono ?_
  rintro e w6 ⟨A6, c6, rfl, ha6, hc6n, ho6, hb6⟩
  have hS6 := SinceK.trans hS5 hb6
  have ho36 := own_below ho35 hb6
  have hK6 := (hK5.below hb6).mono hb6.size
  refine hK.out _ _ hS6 (fun _ => ?_)
  clear hK K'
  refine wpAnyH_ready (rs := [13]) (by kernel_rfl) (by simp) (AllReadyH.cons (List.getElem?_toArray.trans rfl) (fun K' hK => ?_) AllReadyH.nil)
  refine wanted_goS rfl ?_
  go_simp
  refine (HSE.out w6 Ab Aw A6 cb cw c6 hK6 (Sv.of_own ho6) ((Sv.below (Sv.of_own how0) hS6).keep hS6.size (fun _ _ => rfl)) ((Sv.below hs0 hS6).keep hS6.size (fun _ _ => rfl))).mono ?_
  rintro e w7 ⟨A7, c7, rfl, ha7, hc7, ho7, hb7⟩
  have hS7 := SinceK.trans hS6 hb7
  have ho37 := own_below ho36 hb7
  refine hK.out _ _ hS7 (fun _ => ?_)
  clear hK K'
  refine wpAnyH_ready (rs := [14]) (by kernel_rfl) (by simp) (AllReadyH.cons (List.getElem?_toArray.trans rfl) (fun K' hK => ?_) AllReadyH.nil)
  refine step_app_sv rfl (.tmp 39) (.tmp 50) _ rfl w0.heap.size 5 i0 _ 1 Tryd.underlying23 hi0 hz0 hz1 hz2 rfl (.slice A3v m c3v) m (H.map cell8) rfl ho37 _ A7 (p + 16) c7 (BX.map cell8) rfl (Sv.of_own ho7) (by rw [List.length_map, HSEL.out]) (cell8_one _) (by unfold maxLen; omega) (by omega) hS7.size ?_
  intro v8 w8 ho8 hg8
  rw [← List.map_append, ← HRAW.out] at ho8
  have hS8 : SinceK w0 w8 := Below.grown hS7 hg8 hS7.size (fun q hq => (ho37.lt q hq).1)
  refine hK.out _ _ hS8 (fun _ => ?_)
  clear hK K'
  refine wpAnyH_take (i := 15) (v := v8) (List.getElem?_toArray.trans rfl) (by kernel_rfl) (by kernel_rfl) (by kernel_rfl) (fun _ _ _ h => h) (.inl ⟨rfl, fun w' hS => rfl⟩) hS8 ?_
  refine act_normS (by simp only [Act.put, List.setIfInBounds_toArray, List.set_cons_zero, List.set_cons_succ]; rfl) ?_
  refine wpAnyH_done (by kernel_rfl) ?_ _
  have hrl : (rawK k pn H pl).length = m + (p + 16) := by rw [raw_len, ← HHM.out, ← HPL.out]
  obtain ⟨gp, cp, rfl, hPq8, hgp, hcp1, hcp2⟩ := Pq.of_own ho8 (by omega)
  have h28 := SinceK.wh hS8 h2'
  have h38 := SinceK.wh hS8 h3'
  have hB8 := SinceK.below hB0 hS8 hB0.size
  have hw0w := hB0.size
  have hpk : packK k sp n pn H pl = protK (mkK k.hp (rawK k pn H pl) (H.length - n)) (rawK k pn H pl) sp n (H.length - n) := rfl
  rw [← HHM.out, show m - n = a by omega] at hpk
  generalize rawK k pn H pl = RW at *
  have HPK := Deep.mk hpk
  have HRL := Deep.mk hrl
  have HPQ8 := Lib.hid hPq8
  have H28 := Lib.hid h28
  have H38 := Lib.hid h38
  have HB8 := Lib.hid hB8
  have hbp : b ≠ gp := by omega
  have hhp : h ≠ gp := by omega
  obtain ⟨q, hq⟩ : ∃ q, q = m + (p + 16) := ⟨_, rfl⟩
  rw [← hq] at hcp1
  rw [← hq]
  have HRLq : Deep (RW.length = q) := ⟨by rw [HRL.out, hq]⟩
  have hqb : a + 20 ≤ q := by omega
  have hqm : q ≤ 100000000 := by omega
  have hanq : a + n ≤ q := by omega
  have HQ := Deep.mk hq
  have hwgp : w.heap.size ≤ gp := by omega
  clear hq hrl ho8 hg8 hS8 ho37 ho7 hb7 hS7 hS6 ho36 hK6 ho6 hb6 hS5 ho35 hK5 hb5 hS4 ho34 ho4 hb4 hS3 ho3 hg3 h3a h3b hS1 ho1 how1 hB0 hs0 how0 h2' h3' rk rrow hPq8 h28 h38 hB8 hpk HNO HSE HRAW HSEL HNL HKL HC5 ha4 hc4 ha6 hc6n ha7 hc7 HHL8
  have hmo : ∀ (w' : World), Sl w' w'.heap.size (some ⟨gp, 0, none⟩) RW → Calls Tryd.prog 44 #[.agg (kyRow k), .slice (some ⟨gp, 0, none⟩) q cp, .int .i64 (a : Int)] w' (GaveM w' (mkK k.hp RW a)) :=
    fun w' h1 => rmask_any k RW _ _ cp a w' HK.out HRLq.out hqb hcp1 hqm h1
  have hml := mk_len k.hp RW a
  generalize mkK k.hp RW a = M at *
  have HML := Deep.mk hml
  have HMO := Lib.hid hmo
  have HSL8 := Lib.hid (HPQ8.out.pb.sl)
  clear hmo hml
  go_wp2_with (refine wpList_load_row rfl 29 (.tmp 3) rfl b rfl _ (kyRow k) _ _ H28.out Tryd.underlying29 rfl (info_kyRow HK.out) ?_)
  refine (HMO.out w8 HSL8.out).mono ?_
  rintro e w9 ⟨AM, cM, rfl, hy9, hb9⟩
  obtain ⟨mb, mo, rfl, hmge, hmlt, hmr⟩ := hy9.thereM (by rw [HML.out]; omega)
  have hgm : gp < mb := Nat.lt_of_lt_of_le HPQ8.out.pb.lt hmge
  have HPQ9 := Lib.hid (HPQ8.out.since hb9)
  have H39 := Lib.hid (H38.out.below hb9 H38.out.lt)
  have HB9 := Lib.hid (HB8.out.trans (hb9.mono HB8.out.size))
  have HMR := Lib.hid hmr
  clear hb9 HMO HSL8 H28 H38 HB8 HPQ8 hy9 hmr
  go_upto_region 9 with (fail)
  have h0 := H39.out.below (Below.refl _ _).drew H39.out.lt
  have q0 := HPQ9.out.since (Below.refl _ _).drew
  have b0 : Below w.heap.size w w9.drew := HB9.out.drew
  have rm := rangeAt_below HMR.out ((Below.refl w9.heap.size _).drew) hmlt
  have lm : mb < w9.drew.heap.size := hmlt
  clear H39 HPQ9 HB9 HMR
  refine wp_region_held_drew (S := fun w' => SinceX gp w9.drew w') (by kernel_rfl) (SinceX.self _ _) (fun _ => ?_)
  generalize w9.drew = w0 at *
  have hmg : mb ≠ gp := by omega
  have lh0' := h0.lt
  have hcs := (h0.cell 0).trans HR0.out
  have hx0 : 0 < RW.length := by rw [HRLq.out]; omega
  have hcb := q0.pb.cell hx0
  have hfb := q0.pb.frozen 0
  have hcm0 := range_cell rm (k := 0) (by rw [HML.out]; omega)
  rw [Nat.add_zero] at hcm0
  obtain ⟨x, hx⟩ : ∃ x, x = RW.getD 0 0 := ⟨_, rfl⟩
  obtain ⟨u, hu⟩ : ∃ u, u = M.getD 0 0 := ⟨_, rfl⟩
  rw [← hx] at hcb
  rw [← hu] at hcm0
  have hbi : ∀ w' : World, Calls Tryd.prog 45 #[.int .u8 (sp : Int)] w' fun e w2 => e = .returned (.int .u8 ((bitsU sp).toNat : Int)) ∧ w2 = w' := fun w' => by
    have := rbits_any sp w'
    rwa [show (if ((sp : Int) == 2) = true then (31 : Int) else 15) = ((bitsU sp).toNat : Int) by
      unfold bitsU
      by_cases h : sp = 2
      · rw [if_pos h, if_pos (by rw [h]; rfl)]; rfl
      · rw [if_neg h, if_neg (by simp only [beq_iff_eq]; omega)]; rfl] at this
  have hpr : protK M RW sp n a = jnP M (RW.set 0 (x ^^^ (u &&& bitsU sp))) a n := by rw [hx, hu]; rfl
  generalize bitsU sp = y at *
  obtain ⟨v, hv⟩ : ∃ v, v = u &&& y := ⟨_, rfl⟩
  obtain ⟨z, hz⟩ : ∃ z, z = x ^^^ v := ⟨_, rfl⟩
  rw [← hv, ← hz] at hpr
  have HBI := Lib.hid hbi
  have HV := Deep.mk hv
  have HZ := Deep.mk hz
  have HPR := Deep.mk hpr
  have HCS := Lib.hid hcs
  have HCM := Lib.hid hcm0
  have hlen0 : ¬ (q = 0) := by omega
  have q9 := q0.put 0 z
  have g9 := grown_set w0 gp 0 (.int .u8 (z.toNat : Int))
  have hS9 : SinceX gp w0 (w0.setCell ⟨gp, 0, none⟩ (.int .u8 (z.toNat : Int))) := g9
  have b9 := below_grownA b0 g9 (by omega) b0.size
  clear hbi hpr hcs hcm0 hv hz hx hu hx0
  refine wpAnyH_take (i := 0) (v := .slice (some ⟨gp, 0, none⟩) q cp) (List.getElem?_toArray.trans rfl) (by kernel_rfl) (by kernel_rfl) (by kernel_rfl) (fun _ _ _ h => h) (.inl ⟨rfl, fun w' hS => rfl⟩) (SinceX.self _ _) ?_
  refine act_normS (by simp only [Act.put, List.setIfInBounds_toArray, List.set_cons_zero, List.set_cons_succ]; rfl) ?_
  refine wpAnyH_take (i := 1) (v := .slice (some ⟨gp, 0, none⟩) q cp) (List.getElem?_toArray.trans rfl) (by kernel_rfl) (by kernel_rfl) (by kernel_rfl) (fun _ _ _ h => h) (.inl ⟨rfl, fun w' hS => rfl⟩) (SinceX.self _ _) ?_
  refine act_normS (by simp only [Act.put, List.setIfInBounds_toArray, List.set_cons_zero, List.set_cons_succ]; rfl) ?_
  refine wpAnyH_take (i := 2) (v := .pointer (some ⟨gp, 0, none⟩)) (List.getElem?_toArray.trans rfl) (by kernel_rfl) (by kernel_rfl) (by kernel_rfl) (fun _ _ _ h => h) (.inl ⟨rfl, fun w' hS => by simp [go_sem, hlen0]⟩) (SinceX.self _ _) ?_
  refine act_normS (by simp only [Act.put, List.setIfInBounds_toArray, List.set_cons_zero, List.set_cons_succ]; rfl) ?_
  refine wpAnyH_take (i := 4) (v := .slice (some ⟨mb, mo, none⟩) 16 cM) (List.getElem?_toArray.trans rfl) (by kernel_rfl) (by kernel_rfl) (by kernel_rfl) (fun _ _ _ h => h) (.inl ⟨rfl, fun w' hS => rfl⟩) (SinceX.self _ _) ?_
  refine act_normS (by simp only [Act.put, List.setIfInBounds_toArray, List.set_cons_zero, List.set_cons_succ]; rfl) ?_
  refine wpAnyH_take (i := 5) (v := .pointer (some ⟨mb, mo, none⟩)) (List.getElem?_toArray.trans rfl) (by kernel_rfl) (by kernel_rfl) (by kernel_rfl) (fun _ _ _ h => h) (.inl ⟨rfl, fun w' hS => by simp [go_sem]⟩) (SinceX.self _ _) ?_
  refine act_normS (by simp only [Act.put, List.setIfInBounds_toArray, List.set_cons_zero, List.set_cons_succ]; rfl) ?_
  refine wpAnyH_take (i := 6) (v := .int .u8 (u.toNat : Int)) (List.getElem?_toArray.trans rfl) (by kernel_rfl) (by kernel_rfl) (by kernel_rfl) (fun _ _ _ h => h) (.inl ⟨rfl, fun w' hS => by have hc := (World.cell?_of_block (hS.block mb lm (fun e => hmg (Option.some.inj e)))).trans HCM.out; simp [go_sem, hc]⟩) (SinceX.self _ _) ?_
  refine act_normS (by simp only [Act.put, List.setIfInBounds_toArray, List.set_cons_zero, List.set_cons_succ]; rfl) ?_
  refine wpAnyH_take (i := 7) (v := .pointer (some ⟨h, 0, none⟩)) (List.getElem?_toArray.trans rfl) (by kernel_rfl) (by kernel_rfl) (by kernel_rfl) (fun _ _ _ h => h) (.inl ⟨rfl, fun w' hS => by simp [go_sem]⟩) (SinceX.self _ _) ?_
  refine act_normS (by simp only [Act.put, List.setIfInBounds_toArray, List.set_cons_zero, List.set_cons_succ]; rfl) ?_
  refine wpAnyH_take (i := 8) (v := .int .u8 (sp : Int)) (List.getElem?_toArray.trans rfl) (by kernel_rfl) (by kernel_rfl) (by kernel_rfl) (fun _ _ _ h => h) (.inl ⟨rfl, fun w' hS => by have hc := (World.cell?_of_block (hS.block h lh0' (fun e => hhp (Option.some.inj e)))).trans HCS.out; simp [go_sem, hc]⟩) (SinceX.self _ _) ?_
  refine act_normS (by simp only [Act.put, List.setIfInBounds_toArray, List.set_cons_zero, List.set_cons_succ]; rfl) ?_
  refine wpAnyH_ready (rs := [3, 9]) (by kernel_rfl) (by simp) (AllReadyH.cons (List.getElem?_toArray.trans rfl) (fun K' hK => ?_) (AllReadyH.cons (List.getElem?_toArray.trans rfl) (fun K' hK => ?_) AllReadyH.nil))
  · refine wanted_goS rfl ?_
    go_simp
    refine hK.out _ _ (SinceX.self _ _) (fun _ => ?_)
    clear hK K'
    refine wpAnyH_ready (rs := [9]) (by kernel_rfl) (by simp) (AllReadyH.cons (List.getElem?_toArray.trans rfl) (fun K' hK => ?_) AllReadyH.nil)
    refine wanted_goS rfl ?_
    go_simp
    refine (HBI.out w0).mono ?_
    rintro e w1 ⟨rfl, hw1⟩
    obtain rfl : w0 = w1 := hw1.symm
    refine hK.out _ _ (SinceX.self _ _) (fun _ => ?_)
    clear hK K'
    refine wpAnyH_take (i := 10) (v := .int .u8 (v.toNat : Int)) (List.getElem?_toArray.trans rfl) (by kernel_rfl) (by kernel_rfl) (by kernel_rfl) (fun _ _ _ h => h) (.inl ⟨rfl, fun w' hS => by rw [HV.out, ← b_and]; simp [go_sem]⟩) (SinceX.self _ _) ?_
    refine act_normS (by simp only [Act.put, List.setIfInBounds_toArray, List.set_cons_zero, List.set_cons_succ]; rfl) ?_
    refine wpAnyH_take (i := 11) (v := .int .u8 (z.toNat : Int)) (List.getElem?_toArray.trans rfl) (by kernel_rfl) (by kernel_rfl) (by kernel_rfl) (fun _ _ _ h => h) (.inl ⟨rfl, fun w' hS => by rw [HZ.out, ← b_xor]; simp [go_sem]⟩) (SinceX.self _ _) ?_
    refine act_normS (by simp only [Act.put, List.setIfInBounds_toArray, List.set_cons_zero, List.set_cons_succ]; rfl) ?_
    refine wpAnyH_take (i := 12) (v := .pointer (some ⟨gp, 0, none⟩)) (List.getElem?_toArray.trans rfl) (by kernel_rfl) (by kernel_rfl) (by kernel_rfl) (fun _ _ _ h => h) (.inl ⟨rfl, fun w' hS => by simp [go_sem, hlen0]⟩) (SinceX.self _ _) ?_
    refine act_normS (by simp only [Act.put, List.setIfInBounds_toArray, List.set_cons_zero, List.set_cons_succ]; rfl) ?_
    refine wpAnyH_ready (rs := [13]) (by kernel_rfl) (by simp) (AllReadyH.cons (List.getElem?_toArray.trans rfl) (fun K' hK => ?_) AllReadyH.nil)
    refine wanted_goS rfl ?_
    go_simp
    refine hK.out _ _ hS9 (fun _ => ?_)
    clear hK K'
    refine wpAnyH_done (by kernel_rfl) ?_ _
    have h9 := SinceX.wh hS9 h0 hhp
    have rm9 := SinceX.range hS9 rm lm hmg
    have hpl2 : (RW.set 0 z).length = q := by rw [List.length_set, HRLq.out]
    have lm9 : mb < (w0.setCell ⟨gp, 0, none⟩ (.int .u8 (z.toNat : Int))).heap.size := Nat.lt_of_lt_of_le lm g9.size
    generalize w0.setCell ⟨gp, 0, none⟩ (.int .u8 (z.toNat : Int)) = W9 at *
    generalize RW.set 0 z = L9 at *
    have H9 := Lib.hid h9
    have HRM := Lib.hid rm9
    have HB9 := Lib.hid b9
    have HL9 := Deep.mk hpl2
    have HQ9 : Hid (Pq W9 gp cp 5 (jnP M L9 a 0)) := Lib.hid q9
    clear h9 rm9 b9 q9 g9 hS9 h0 rm lm hcb hfb hpl2 b0 q0 HBI HCS HCM HV HZ lh0' hlen0
    go_wp2_with fail
    go_loopw [12] (fun i wr => ∃ k : Nat, k ≤ n ∧ i = .int .i64 (k : Int) ∧ Hid (Pq wr gp cp 5 (jnP M L9 a k)) ∧ Hid (W9.grownBy wr (some gp))) (fun i _ => n - (intOf i).toNat)
    case atStart => exact ⟨0, by omega, rfl, HQ9, Lib.hid (World.grownBy.refl _ _)⟩
    case round =>
      obtain ⟨k', hk', rfl, HW, HGW⟩ := hrel
      clear HQ9
      have hc6 : wr.cell? ⟨h, 6, none⟩ = some (.int .i64 (n : Int)) := ((H9.out.grown HGW.out (fun e => hhp (Option.some.inj e))).cell 6).trans HR6.out
      by_cases hlt : k' < n
      · have hd : decide (k' < n) = true := decide_eq_true hlt
        have HLT := Lib.hid hlt
        obtain ⟨i, hi⟩ : ∃ i, i = a + k' := ⟨_, rfl⟩
        obtain ⟨j, hj⟩ : ∃ j, j = k' + 1 := ⟨_, rfl⟩
        have hiq : i < q := by omega
        have hcu := HW.out.pb.cell (j := i) (by rw [jnP_len, HL9.out]; exact hiq)
        have hfu := HW.out.pb.frozen i
        have hrk := HRM.out
        have hcq := (World.cell?_of_block (HGW.out.block mb lm9 (fun e => hmg (Option.some.inj e)))).trans (range_cell hrk (k := j) (by rw [HML.out]; omega))
        have hnx : (jnP M L9 a k').set i ((jnP M L9 a k').getD i 0 ^^^ M.getD j 0) = jnP M L9 a (k' + 1) := by rw [hi, hj]; rfl
        generalize jnP M L9 a k' = uu at *
        generalize uu.getD i 0 = x' at *
        generalize M.getD j 0 = y' at *
        obtain ⟨z', hz'⟩ : ∃ z', z' = x' ^^^ y' := ⟨_, rfl⟩
        rw [← hz'] at hnx
        have HZZ := Deep.mk hz'
        have HNX := Deep.mk hnx
        have hput := (HW.out.since (Below.refl _ _).drew).put i z'
        have hgs := grown_trans (grown_below (row := some gp) ((Below.refl _ wr).drew)) (grown_set wr.drew gp i (.int .u8 (z'.toNat : Int)))
        have HPU := Lib.hid hput
        have HGS := Lib.hid hgs
        have HCU : Hid (wr.drew.cell? ⟨gp, i, none⟩ = some (.int .u8 (x'.toNat : Int))) := Lib.hid hcu
        have HFU : Hid (wr.drew.frozen? ⟨gp, i, none⟩ = false) := Lib.hid hfu
        have HCQ : Hid (wr.drew.cell? ⟨mb, mo + j, none⟩ = some (.int .u8 (y'.toNat : Int))) := Lib.hid hcq
        have hlmw : mb < wr.drew.heap.size := Nat.lt_of_lt_of_le lm9 HGW.out.size
        have hwp1 : IntKind.i64.wrap ((a : Int) + (k' : Int)) = (i : Int) := by rw [IntWalk.i64_in _ (by omega)]; omega
        have hwp2 : IntKind.i64.wrap ((k' : Int) + 1) = (j : Int) := by rw [IntWalk.i64_in _ (by omega)]; omega
        have HWP1 := Lib.hid hwp1
        have HWP2 := Lib.hid hwp2
        have hj16 : ¬ ((16 : Int) ≤ (j : Int)) := by omega
        clear hcu hfu hcq hnx hz' hput hgs hwp1 hwp2 hrk hi hj
        go_wp2_with fail
        clear hc6
        have hcd := HCU.out
        have hfd := HFU.out
        have hwp1 := HWP1.out
        have hwp2 := HWP2.out
        refine wp_region_held_drew (S := fun w' => SinceX gp wr.drew w') (by kernel_rfl) (SinceX.self _ _) (fun _ => ?_)
        refine wpAnyH_take (i := 0) (v := .slice (some ⟨gp, 0, none⟩) q cp) (List.getElem?_toArray.trans rfl) (by kernel_rfl) (by kernel_rfl) (by kernel_rfl) (fun _ _ _ h => h) (.inl ⟨rfl, fun w' hS => rfl⟩) (SinceX.self _ _) ?_
        refine act_normS (by simp only [Act.put, List.setIfInBounds_toArray, List.set_cons_zero, List.set_cons_succ]; rfl) ?_
        refine wpAnyH_take (i := 1) (v := .int .i64 (a : Int)) (List.getElem?_toArray.trans rfl) (by kernel_rfl) (by kernel_rfl) (by kernel_rfl) (fun _ _ _ h => h) (.inl ⟨rfl, fun w' hS => rfl⟩) (SinceX.self _ _) ?_
        refine act_normS (by simp only [Act.put, List.setIfInBounds_toArray, List.set_cons_zero, List.set_cons_succ]; rfl) ?_
        refine wpAnyH_take (i := 2) (v := .int .i64 (k' : Int)) (List.getElem?_toArray.trans rfl) (by kernel_rfl) (by kernel_rfl) (by kernel_rfl) (fun _ _ _ h => h) (.inl ⟨rfl, fun w' hS => rfl⟩) (SinceX.self _ _) ?_
        refine act_normS (by simp only [Act.put, List.setIfInBounds_toArray, List.set_cons_zero, List.set_cons_succ]; rfl) ?_
        refine wpAnyH_take (i := 3) (v := .int .i64 (i : Int)) (List.getElem?_toArray.trans rfl) (by kernel_rfl) (by kernel_rfl) (by kernel_rfl) (fun _ _ _ h => h) (.inl ⟨rfl, fun w' hS => by simp [go_sem, hwp1]⟩) (SinceX.self _ _) ?_
        refine act_normS (by simp only [Act.put, List.setIfInBounds_toArray, List.set_cons_zero, List.set_cons_succ]; rfl) ?_
        refine wpAnyH_take (i := 4) (v := .slice (some ⟨gp, 0, none⟩) q cp) (List.getElem?_toArray.trans rfl) (by kernel_rfl) (by kernel_rfl) (by kernel_rfl) (fun _ _ _ h => h) (.inl ⟨rfl, fun w' hS => rfl⟩) (SinceX.self _ _) ?_
        refine act_normS (by simp only [Act.put, List.setIfInBounds_toArray, List.set_cons_zero, List.set_cons_succ]; rfl) ?_
        refine wpAnyH_take (i := 5) (v := .int .i64 (a : Int)) (List.getElem?_toArray.trans rfl) (by kernel_rfl) (by kernel_rfl) (by kernel_rfl) (fun _ _ _ h => h) (.inl ⟨rfl, fun w' hS => rfl⟩) (SinceX.self _ _) ?_
        refine act_normS (by simp only [Act.put, List.setIfInBounds_toArray, List.set_cons_zero, List.set_cons_succ]; rfl) ?_
        refine wpAnyH_take (i := 6) (v := .int .i64 (k' : Int)) (List.getElem?_toArray.trans rfl) (by kernel_rfl) (by kernel_rfl) (by kernel_rfl) (fun _ _ _ h => h) (.inl ⟨rfl, fun w' hS => rfl⟩) (SinceX.self _ _) ?_
        refine act_normS (by simp only [Act.put, List.setIfInBounds_toArray, List.set_cons_zero, List.set_cons_succ]; rfl) ?_
        refine wpAnyH_take (i := 7) (v := .int .i64 (i : Int)) (List.getElem?_toArray.trans rfl) (by kernel_rfl) (by kernel_rfl) (by kernel_rfl) (fun _ _ _ h => h) (.inl ⟨rfl, fun w' hS => by simp [go_sem, hwp1]⟩) (SinceX.self _ _) ?_
        refine act_normS (by simp only [Act.put, List.setIfInBounds_toArray, List.set_cons_zero, List.set_cons_succ]; rfl) ?_
        refine wpAnyH_take (i := 8) (v := .pointer (some ⟨gp, i, none⟩)) (List.getElem?_toArray.trans rfl) (by kernel_rfl) (by kernel_rfl) (by kernel_rfl) (fun _ _ _ h => h) (.inl ⟨rfl, fun w' hS => by simp [go_sem, hiq]⟩) (SinceX.self _ _) ?_
        refine act_normS (by simp only [Act.put, List.setIfInBounds_toArray, List.set_cons_zero, List.set_cons_succ]; rfl) ?_
        refine wpAnyH_take (i := 10) (v := .slice (some ⟨mb, mo, none⟩) 16 cM) (List.getElem?_toArray.trans rfl) (by kernel_rfl) (by kernel_rfl) (by kernel_rfl) (fun _ _ _ h => h) (.inl ⟨rfl, fun w' hS => rfl⟩) (SinceX.self _ _) ?_
        refine act_normS (by simp only [Act.put, List.setIfInBounds_toArray, List.set_cons_zero, List.set_cons_succ]; rfl) ?_
        refine wpAnyH_take (i := 11) (v := .int .i64 (k' : Int)) (List.getElem?_toArray.trans rfl) (by kernel_rfl) (by kernel_rfl) (by kernel_rfl) (fun _ _ _ h => h) (.inl ⟨rfl, fun w' hS => rfl⟩) (SinceX.self _ _) ?_
        refine act_normS (by simp only [Act.put, List.setIfInBounds_toArray, List.set_cons_zero, List.set_cons_succ]; rfl) ?_
        refine wpAnyH_take (i := 12) (v := .int .i64 (j : Int)) (List.getElem?_toArray.trans rfl) (by kernel_rfl) (by kernel_rfl) (by kernel_rfl) (fun _ _ _ h => h) (.inl ⟨rfl, fun w' hS => by simp [go_sem, hwp2]⟩) (SinceX.self _ _) ?_
        refine act_normS (by simp only [Act.put, List.setIfInBounds_toArray, List.set_cons_zero, List.set_cons_succ]; rfl) ?_
        refine wpAnyH_take (i := 13) (v := .pointer (some ⟨mb, mo + j, none⟩)) (List.getElem?_toArray.trans rfl) (by kernel_rfl) (by kernel_rfl) (by kernel_rfl) (fun _ _ _ h => h) (.inl ⟨rfl, fun w' hS => by simp [go_sem, hj16]⟩) (SinceX.self _ _) ?_
        refine act_normS (by simp only [Act.put, List.setIfInBounds_toArray, List.set_cons_zero, List.set_cons_succ]; rfl) ?_
        refine wpAnyH_take (i := 14) (v := .int .u8 (y'.toNat : Int)) (List.getElem?_toArray.trans rfl) (by kernel_rfl) (by kernel_rfl) (by kernel_rfl) (fun _ _ _ h => h) (.inl ⟨rfl, fun w' hS => by have hc := (World.cell?_of_block (hS.block mb hlmw (fun e => hmg (Option.some.inj e)))).trans HCQ.out; simp [go_sem, hc]⟩) (SinceX.self _ _) ?_
        refine act_normS (by simp only [Act.put, List.setIfInBounds_toArray, List.set_cons_zero, List.set_cons_succ]; rfl) ?_
        refine wpAnyH_ready (rs := [9]) (by kernel_rfl) (by simp) (AllReadyH.cons (List.getElem?_toArray.trans rfl) (fun K' hK => ?_) AllReadyH.nil)
        refine wanted_goS rfl ?_
        go_simp
        refine hK.out _ _ (SinceX.self _ _) (fun _ => ?_)
        clear hK K'
        refine wpAnyH_take (i := 15) (v := .int .u8 (z'.toNat : Int)) (List.getElem?_toArray.trans rfl) (by kernel_rfl) (by kernel_rfl) (by kernel_rfl) (fun _ _ _ h => h) (.inl ⟨rfl, fun w' hS => by rw [HZZ.out, ← b_xor]; simp [go_sem]⟩) (SinceX.self _ _) ?_
        refine act_normS (by simp only [Act.put, List.setIfInBounds_toArray, List.set_cons_zero, List.set_cons_succ]; rfl) ?_
        refine wpAnyH_take (i := 16) (v := .pointer (some ⟨gp, i, none⟩)) (List.getElem?_toArray.trans rfl) (by kernel_rfl) (by kernel_rfl) (by kernel_rfl) (fun _ _ _ h => h) (.inl ⟨rfl, fun w' hS => by simp [go_sem, hiq]⟩) (SinceX.self _ _) ?_
        refine act_normS (by simp only [Act.put, List.setIfInBounds_toArray, List.set_cons_zero, List.set_cons_succ]; rfl) ?_
        have hSf : SinceX gp wr.drew (wr.drew.setCell ⟨gp, i, none⟩ (.int .u8 (z'.toNat : Int))) := grown_set _ _ _ _
        refine wpAnyH_ready (rs := [17]) (by kernel_rfl) (by simp) (AllReadyH.cons (List.getElem?_toArray.trans rfl) (fun K' hK => ?_) AllReadyH.nil)
        refine wanted_goS rfl ?_
        go_simp
        refine hK.out _ _ hSf (fun _ => ?_)
        clear hK K'
        refine wpAnyH_done (by kernel_rfl) ?_ _
        clear hcd hfd hSf hwp1 hwp2
        change Exit.inBlock 1 _ _ _ (wr.drew.setCell ⟨gp, i, none⟩ (.int .u8 (z'.toNat : Int)))
        generalize wr.drew.setCell ⟨gp, i, none⟩ (.int .u8 (z'.toNat : Int)) = w5 at *
        go_wp2
        refine ⟨⟨k' + 1, (by have : k' < n := HLT.out; omega), by go_num, ?_, Lib.hid (grown_trans HGW.out HGS.out)⟩, (by have : k' < n := HLT.out; simp [intOf]; omega)⟩
        rw [← HNX.out]
        exact HPU
      · have hkd : decide (k' < n) = false := by rw [decide_eq_false_iff_not]; omega
        have hkn : k' = n := by omega
        have hqf := HW.out
        rw [hkn, ← HPR.out, ← HPK.out] at hqf
        have hbf := below_grownA HB9.out HGW.out (by omega) HB9.out.size
        have hfl : (packK k sp n pn H pl).length = q := by rw [pack_len, ← HHM.out, ← HPL.out, HQ.out]
        obtain ⟨F, hF⟩ : ∃ F, F = packK k sp n pn H pl := ⟨_, rfl⟩
        rw [← hF] at hqf hfl
        have HQF := Lib.hid hqf
        have HBF := Lib.hid hbf
        have HFL := Deep.mk hfl
        have HF := Deep.mk hF
        clear HW HGW hkn hqf hbf hfl hF hlt hk'
        go_wp2
        go_ret2
        have ho := HQF.out.own (base := w.heap.size) hwgp HFL.out hcp1 hcp2
        refine ⟨some ⟨gp, 0, none⟩, cp, ?_, ?_, hcp2, ?_, HBF.out⟩
        · rw [← HF.out, HFL.out]
          rfl
        · rw [← HF.out, HFL.out]
          exact hcp1
        · rw [← HF.out, HFL.out]
          exact ho
  · refine wanted_goS rfl ?_
    go_simp
    refine (HBI.out w0).mono ?_
    rintro e w1 ⟨rfl, hw1⟩
    obtain rfl : w0 = w1 := hw1.symm
    refine hK.out _ _ (SinceX.self _ _) (fun _ => ?_)
    clear hK K'
    refine wpAnyH_take (i := 10) (v := .int .u8 (v.toNat : Int)) (List.getElem?_toArray.trans rfl) (by kernel_rfl) (by kernel_rfl) (by kernel_rfl) (fun _ _ _ h => h) (.inl ⟨rfl, fun w' hS => by rw [HV.out, ← b_and]; simp [go_sem]⟩) (SinceX.self _ _) ?_
    refine act_normS (by simp only [Act.put, List.setIfInBounds_toArray, List.set_cons_zero, List.set_cons_succ]; rfl) ?_
    refine wpAnyH_ready (rs := [3]) (by kernel_rfl) (by simp) (AllReadyH.cons (List.getElem?_toArray.trans rfl) (fun K' hK => ?_) AllReadyH.nil)
    refine wanted_goS rfl ?_
    go_simp
    refine hK.out _ _ (SinceX.self _ _) (fun _ => ?_)
    clear hK K'
    refine wpAnyH_take (i := 11) (v := .int .u8 (z.toNat : Int)) (List.getElem?_toArray.trans rfl) (by kernel_rfl) (by kernel_rfl) (by kernel_rfl) (fun _ _ _ h => h) (.inl ⟨rfl, fun w' hS => by rw [HZ.out, ← b_xor]; simp [go_sem]⟩) (SinceX.self _ _) ?_
    refine act_normS (by simp only [Act.put, List.setIfInBounds_toArray, List.set_cons_zero, List.set_cons_succ]; rfl) ?_
    refine wpAnyH_take (i := 12) (v := .pointer (some ⟨gp, 0, none⟩)) (List.getElem?_toArray.trans rfl) (by kernel_rfl) (by kernel_rfl) (by kernel_rfl) (fun _ _ _ h => h) (.inl ⟨rfl, fun w' hS => by simp [go_sem, hlen0]⟩) (SinceX.self _ _) ?_
    refine act_normS (by simp only [Act.put, List.setIfInBounds_toArray, List.set_cons_zero, List.set_cons_succ]; rfl) ?_
    refine wpAnyH_ready (rs := [13]) (by kernel_rfl) (by simp) (AllReadyH.cons (List.getElem?_toArray.trans rfl) (fun K' hK => ?_) AllReadyH.nil)
    refine wanted_goS rfl ?_
    go_simp
    refine hK.out _ _ hS9 (fun _ => ?_)
    clear hK K'
    refine wpAnyH_done (by kernel_rfl) ?_ _
    have h9 := SinceX.wh hS9 h0 hhp
    have rm9 := SinceX.range hS9 rm lm hmg
    have hpl2 : (RW.set 0 z).length = q := by rw [List.length_set, HRLq.out]
    have lm9 : mb < (w0.setCell ⟨gp, 0, none⟩ (.int .u8 (z.toNat : Int))).heap.size := Nat.lt_of_lt_of_le lm g9.size
    generalize w0.setCell ⟨gp, 0, none⟩ (.int .u8 (z.toNat : Int)) = W9 at *
    generalize RW.set 0 z = L9 at *
    have H9 := Lib.hid h9
    have HRM := Lib.hid rm9
    have HB9 := Lib.hid b9
    have HL9 := Deep.mk hpl2
    have HQ9 : Hid (Pq W9 gp cp 5 (jnP M L9 a 0)) := Lib.hid q9
    clear h9 rm9 b9 q9 g9 hS9 h0 rm lm hcb hfb hpl2 b0 q0 HBI HCS HCM HV HZ lh0' hlen0
    go_wp2_with fail
    go_loopw [12] (fun i wr => ∃ k : Nat, k ≤ n ∧ i = .int .i64 (k : Int) ∧ Hid (Pq wr gp cp 5 (jnP M L9 a k)) ∧ Hid (W9.grownBy wr (some gp))) (fun i _ => n - (intOf i).toNat)
    case atStart => exact ⟨0, by omega, rfl, HQ9, Lib.hid (World.grownBy.refl _ _)⟩
    case round =>
      obtain ⟨k', hk', rfl, HW, HGW⟩ := hrel
      clear HQ9
      have hc6 : wr.cell? ⟨h, 6, none⟩ = some (.int .i64 (n : Int)) := ((H9.out.grown HGW.out (fun e => hhp (Option.some.inj e))).cell 6).trans HR6.out
      by_cases hlt : k' < n
      · have hd : decide (k' < n) = true := decide_eq_true hlt
        have HLT := Lib.hid hlt
        obtain ⟨i, hi⟩ : ∃ i, i = a + k' := ⟨_, rfl⟩
        obtain ⟨j, hj⟩ : ∃ j, j = k' + 1 := ⟨_, rfl⟩
        have hiq : i < q := by omega
        have hcu := HW.out.pb.cell (j := i) (by rw [jnP_len, HL9.out]; exact hiq)
        have hfu := HW.out.pb.frozen i
        have hrk := HRM.out
        have hcq := (World.cell?_of_block (HGW.out.block mb lm9 (fun e => hmg (Option.some.inj e)))).trans (range_cell hrk (k := j) (by rw [HML.out]; omega))
        have hnx : (jnP M L9 a k').set i ((jnP M L9 a k').getD i 0 ^^^ M.getD j 0) = jnP M L9 a (k' + 1) := by rw [hi, hj]; rfl
        generalize jnP M L9 a k' = uu at *
        generalize uu.getD i 0 = x' at *
        generalize M.getD j 0 = y' at *
        obtain ⟨z', hz'⟩ : ∃ z', z' = x' ^^^ y' := ⟨_, rfl⟩
        rw [← hz'] at hnx
        have HZZ := Deep.mk hz'
        have HNX := Deep.mk hnx
        have hput := (HW.out.since (Below.refl _ _).drew).put i z'
        have hgs := grown_trans (grown_below (row := some gp) ((Below.refl _ wr).drew)) (grown_set wr.drew gp i (.int .u8 (z'.toNat : Int)))
        have HPU := Lib.hid hput
        have HGS := Lib.hid hgs
        have HCU : Hid (wr.drew.cell? ⟨gp, i, none⟩ = some (.int .u8 (x'.toNat : Int))) := Lib.hid hcu
        have HFU : Hid (wr.drew.frozen? ⟨gp, i, none⟩ = false) := Lib.hid hfu
        have HCQ : Hid (wr.drew.cell? ⟨mb, mo + j, none⟩ = some (.int .u8 (y'.toNat : Int))) := Lib.hid hcq
        have hlmw : mb < wr.drew.heap.size := Nat.lt_of_lt_of_le lm9 HGW.out.size
        have hwp1 : IntKind.i64.wrap ((a : Int) + (k' : Int)) = (i : Int) := by rw [IntWalk.i64_in _ (by omega)]; omega
        have hwp2 : IntKind.i64.wrap ((k' : Int) + 1) = (j : Int) := by rw [IntWalk.i64_in _ (by omega)]; omega
        have HWP1 := Lib.hid hwp1
        have HWP2 := Lib.hid hwp2
        have hj16 : ¬ ((16 : Int) ≤ (j : Int)) := by omega
        clear hcu hfu hcq hnx hz' hput hgs hwp1 hwp2 hrk hi hj
        go_wp2_with fail
        clear hc6
        have hcd := HCU.out
        have hfd := HFU.out
        have hwp1 := HWP1.out
        have hwp2 := HWP2.out
        refine wp_region_held_drew (S := fun w' => SinceX gp wr.drew w') (by kernel_rfl) (SinceX.self _ _) (fun _ => ?_)
        refine wpAnyH_take (i := 0) (v := .slice (some ⟨gp, 0, none⟩) q cp) (List.getElem?_toArray.trans rfl) (by kernel_rfl) (by kernel_rfl) (by kernel_rfl) (fun _ _ _ h => h) (.inl ⟨rfl, fun w' hS => rfl⟩) (SinceX.self _ _) ?_
        refine act_normS (by simp only [Act.put, List.setIfInBounds_toArray, List.set_cons_zero, List.set_cons_succ]; rfl) ?_
        refine wpAnyH_take (i := 1) (v := .int .i64 (a : Int)) (List.getElem?_toArray.trans rfl) (by kernel_rfl) (by kernel_rfl) (by kernel_rfl) (fun _ _ _ h => h) (.inl ⟨rfl, fun w' hS => rfl⟩) (SinceX.self _ _) ?_
        refine act_normS (by simp only [Act.put, List.setIfInBounds_toArray, List.set_cons_zero, List.set_cons_succ]; rfl) ?_
        refine wpAnyH_take (i := 2) (v := .int .i64 (k' : Int)) (List.getElem?_toArray.trans rfl) (by kernel_rfl) (by kernel_rfl) (by kernel_rfl) (fun _ _ _ h => h) (.inl ⟨rfl, fun w' hS => rfl⟩) (SinceX.self _ _) ?_
        refine act_normS (by simp only [Act.put, List.setIfInBounds_toArray, List.set_cons_zero, List.set_cons_succ]; rfl) ?_
        refine wpAnyH_take (i := 3) (v := .int .i64 (i : Int)) (List.getElem?_toArray.trans rfl) (by kernel_rfl) (by kernel_rfl) (by kernel_rfl) (fun _ _ _ h => h) (.inl ⟨rfl, fun w' hS => by simp [go_sem, hwp1]⟩) (SinceX.self _ _) ?_
        refine act_normS (by simp only [Act.put, List.setIfInBounds_toArray, List.set_cons_zero, List.set_cons_succ]; rfl) ?_
        refine wpAnyH_take (i := 4) (v := .slice (some ⟨gp, 0, none⟩) q cp) (List.getElem?_toArray.trans rfl) (by kernel_rfl) (by kernel_rfl) (by kernel_rfl) (fun _ _ _ h => h) (.inl ⟨rfl, fun w' hS => rfl⟩) (SinceX.self _ _) ?_
        refine act_normS (by simp only [Act.put, List.setIfInBounds_toArray, List.set_cons_zero, List.set_cons_succ]; rfl) ?_
        refine wpAnyH_take (i := 5) (v := .int .i64 (a : Int)) (List.getElem?_toArray.trans rfl) (by kernel_rfl) (by kernel_rfl) (by kernel_rfl) (fun _ _ _ h => h) (.inl ⟨rfl, fun w' hS => rfl⟩) (SinceX.self _ _) ?_
        refine act_normS (by simp only [Act.put, List.setIfInBounds_toArray, List.set_cons_zero, List.set_cons_succ]; rfl) ?_
        refine wpAnyH_take (i := 6) (v := .int .i64 (k' : Int)) (List.getElem?_toArray.trans rfl) (by kernel_rfl) (by kernel_rfl) (by kernel_rfl) (fun _ _ _ h => h) (.inl ⟨rfl, fun w' hS => rfl⟩) (SinceX.self _ _) ?_
        refine act_normS (by simp only [Act.put, List.setIfInBounds_toArray, List.set_cons_zero, List.set_cons_succ]; rfl) ?_
        refine wpAnyH_take (i := 7) (v := .int .i64 (i : Int)) (List.getElem?_toArray.trans rfl) (by kernel_rfl) (by kernel_rfl) (by kernel_rfl) (fun _ _ _ h => h) (.inl ⟨rfl, fun w' hS => by simp [go_sem, hwp1]⟩) (SinceX.self _ _) ?_
        refine act_normS (by simp only [Act.put, List.setIfInBounds_toArray, List.set_cons_zero, List.set_cons_succ]; rfl) ?_
        refine wpAnyH_take (i := 8) (v := .pointer (some ⟨gp, i, none⟩)) (List.getElem?_toArray.trans rfl) (by kernel_rfl) (by kernel_rfl) (by kernel_rfl) (fun _ _ _ h => h) (.inl ⟨rfl, fun w' hS => by simp [go_sem, hiq]⟩) (SinceX.self _ _) ?_
        refine act_normS (by simp only [Act.put, List.setIfInBounds_toArray, List.set_cons_zero, List.set_cons_succ]; rfl) ?_
        refine wpAnyH_take (i := 10) (v := .slice (some ⟨mb, mo, none⟩) 16 cM) (List.getElem?_toArray.trans rfl) (by kernel_rfl) (by kernel_rfl) (by kernel_rfl) (fun _ _ _ h => h) (.inl ⟨rfl, fun w' hS => rfl⟩) (SinceX.self _ _) ?_
        refine act_normS (by simp only [Act.put, List.setIfInBounds_toArray, List.set_cons_zero, List.set_cons_succ]; rfl) ?_
        refine wpAnyH_take (i := 11) (v := .int .i64 (k' : Int)) (List.getElem?_toArray.trans rfl) (by kernel_rfl) (by kernel_rfl) (by kernel_rfl) (fun _ _ _ h => h) (.inl ⟨rfl, fun w' hS => rfl⟩) (SinceX.self _ _) ?_
        refine act_normS (by simp only [Act.put, List.setIfInBounds_toArray, List.set_cons_zero, List.set_cons_succ]; rfl) ?_
        refine wpAnyH_take (i := 12) (v := .int .i64 (j : Int)) (List.getElem?_toArray.trans rfl) (by kernel_rfl) (by kernel_rfl) (by kernel_rfl) (fun _ _ _ h => h) (.inl ⟨rfl, fun w' hS => by simp [go_sem, hwp2]⟩) (SinceX.self _ _) ?_
        refine act_normS (by simp only [Act.put, List.setIfInBounds_toArray, List.set_cons_zero, List.set_cons_succ]; rfl) ?_
        refine wpAnyH_take (i := 13) (v := .pointer (some ⟨mb, mo + j, none⟩)) (List.getElem?_toArray.trans rfl) (by kernel_rfl) (by kernel_rfl) (by kernel_rfl) (fun _ _ _ h => h) (.inl ⟨rfl, fun w' hS => by simp [go_sem, hj16]⟩) (SinceX.self _ _) ?_
        refine act_normS (by simp only [Act.put, List.setIfInBounds_toArray, List.set_cons_zero, List.set_cons_succ]; rfl) ?_
        refine wpAnyH_take (i := 14) (v := .int .u8 (y'.toNat : Int)) (List.getElem?_toArray.trans rfl) (by kernel_rfl) (by kernel_rfl) (by kernel_rfl) (fun _ _ _ h => h) (.inl ⟨rfl, fun w' hS => by have hc := (World.cell?_of_block (hS.block mb hlmw (fun e => hmg (Option.some.inj e)))).trans HCQ.out; simp [go_sem, hc]⟩) (SinceX.self _ _) ?_
        refine act_normS (by simp only [Act.put, List.setIfInBounds_toArray, List.set_cons_zero, List.set_cons_succ]; rfl) ?_
        refine wpAnyH_ready (rs := [9]) (by kernel_rfl) (by simp) (AllReadyH.cons (List.getElem?_toArray.trans rfl) (fun K' hK => ?_) AllReadyH.nil)
        refine wanted_goS rfl ?_
        go_simp
        refine hK.out _ _ (SinceX.self _ _) (fun _ => ?_)
        clear hK K'
        refine wpAnyH_take (i := 15) (v := .int .u8 (z'.toNat : Int)) (List.getElem?_toArray.trans rfl) (by kernel_rfl) (by kernel_rfl) (by kernel_rfl) (fun _ _ _ h => h) (.inl ⟨rfl, fun w' hS => by rw [HZZ.out, ← b_xor]; simp [go_sem]⟩) (SinceX.self _ _) ?_
        refine act_normS (by simp only [Act.put, List.setIfInBounds_toArray, List.set_cons_zero, List.set_cons_succ]; rfl) ?_
        refine wpAnyH_take (i := 16) (v := .pointer (some ⟨gp, i, none⟩)) (List.getElem?_toArray.trans rfl) (by kernel_rfl) (by kernel_rfl) (by kernel_rfl) (fun _ _ _ h => h) (.inl ⟨rfl, fun w' hS => by simp [go_sem, hiq]⟩) (SinceX.self _ _) ?_
        refine act_normS (by simp only [Act.put, List.setIfInBounds_toArray, List.set_cons_zero, List.set_cons_succ]; rfl) ?_
        have hSf : SinceX gp wr.drew (wr.drew.setCell ⟨gp, i, none⟩ (.int .u8 (z'.toNat : Int))) := grown_set _ _ _ _
        refine wpAnyH_ready (rs := [17]) (by kernel_rfl) (by simp) (AllReadyH.cons (List.getElem?_toArray.trans rfl) (fun K' hK => ?_) AllReadyH.nil)
        refine wanted_goS rfl ?_
        go_simp
        refine hK.out _ _ hSf (fun _ => ?_)
        clear hK K'
        refine wpAnyH_done (by kernel_rfl) ?_ _
        clear hcd hfd hSf hwp1 hwp2
        change Exit.inBlock 1 _ _ _ (wr.drew.setCell ⟨gp, i, none⟩ (.int .u8 (z'.toNat : Int)))
        generalize wr.drew.setCell ⟨gp, i, none⟩ (.int .u8 (z'.toNat : Int)) = w5 at *
        go_wp2
        refine ⟨⟨k' + 1, (by have : k' < n := HLT.out; omega), by go_num, ?_, Lib.hid (grown_trans HGW.out HGS.out)⟩, (by have : k' < n := HLT.out; simp [intOf]; omega)⟩
        rw [← HNX.out]
        exact HPU
      · have hkd : decide (k' < n) = false := by rw [decide_eq_false_iff_not]; omega
        have hkn : k' = n := by omega
        have hqf := HW.out
        rw [hkn, ← HPR.out, ← HPK.out] at hqf
        have hbf := below_grownA HB9.out HGW.out (by omega) HB9.out.size
        have hfl : (packK k sp n pn H pl).length = q := by rw [pack_len, ← HHM.out, ← HPL.out, HQ.out]
        obtain ⟨F, hF⟩ : ∃ F, F = packK k sp n pn H pl := ⟨_, rfl⟩
        rw [← hF] at hqf hfl
        have HQF := Lib.hid hqf
        have HBF := Lib.hid hbf
        have HFL := Deep.mk hfl
        have HF := Deep.mk hF
        clear HW HGW hkn hqf hbf hfl hF hlt hk'
        go_wp2
        go_ret2
        have ho := HQF.out.own (base := w.heap.size) hwgp HFL.out hcp1 hcp2
        refine ⟨some ⟨gp, 0, none⟩, cp, ?_, ?_, hcp2, ?_, HBF.out⟩
        · rw [← HF.out, HFL.out]
          rfl
        · rw [← HF.out, HFL.out]
          exact hcp1
        · rw [← HF.out, HFL.out]
          exact ho
end Go.Proofs.YtblclinfcdalaaaDoor
