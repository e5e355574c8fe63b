/-
  key.Seal. Printed by tools/gen_kpseal.py.
-/
import Derived.Test.YtbnnjkjmadnjkaaDoorSk28
import Derived.Test.YtbnnjkjmadnjkaaDoorSk31
import Derived.Test.YtbnnjkjmadnjkaaDoorSk39
import Derived.Test.YtbnnjkjmadnjkaaDoorSk3
namespace Go.Proofs.YtbnnjkjmadnjkaaDoor
open Go.RowKit
set_option linter.unusedVariables false

/-- A packet that is sealed, before it is protected; and protected. -/
def rawK (k : KS) (pn : Nat) (hdr pl : List UInt8) : List UInt8 := hdr ++ sealK k.key (nonK k.iv pn) hdr pl
def protK (m b : List UInt8) (sp n a : Nat) : List UInt8 := jnP m (b.set 0 (firstK m (b.getD 0 0) sp)) a n
def packK (k : KS) (sp n pn : Nat) (hdr pl : List UInt8) : List UInt8 := protK (mkK k.hp (rawK k pn hdr pl) (hdr.length - n)) (rawK k pn hdr pl) sp n (hdr.length - n)
theorem raw_len (k : KS) (pn : Nat) (hdr pl : List UInt8) : (rawK k pn hdr pl).length = hdr.length + (pl.length + 16) := by rw [rawK, List.length_append, sealK_len]
theorem prot_len (m b : List UInt8) (sp n a : Nat) : (protK m b sp n a).length = b.length := by rw [protK, jnP_len, List.length_set]
theorem pack_len (k : KS) (sp n pn : Nat) (hdr pl : List UInt8) : (packK k sp n pn hdr pl).length = hdr.length + (pl.length + 16) := by rw [packK, prot_len, raw_len]
theorem head_row (sp : Nat) (A1 : Option Addr) (n1 c1 : Nat) (A2 : Option Addr) (n2 c2 : Nat) (A3 : Option Addr) (n3 c3 : Nat) (ph : Bool) (pn pnb : Int) : (headC sp A1 n1 c1 A2 n2 c2 A3 n3 c3 ph pn pnb).size = 7 := rfl
theorem info_headR (sp : Nat) (A1 : Option Addr) (n1 c1 : Nat) (A2 : Option Addr) (n2 c2 : Nat) (A3 : Option Addr) (n3 c3 : Nat) (ph : Bool) (pn pnb : Int) : (Tryd.prog.info? 30).map (·.size) = some (headC sp A1 n1 c1 A2 n2 c2 A3 n3 c3 ph pn pnb).size := by kernel_rfl

set_option maxRecDepth 100000 in
set_option maxHeartbeats 1600000 in
theorem kseal_bad (k : KS) (sp pn : Nat) (dst src tok pl : List UInt8) (ph : Bool) (pnb : Int) (A1 : Option Addr) (c1 : Nat) (A2 : Option Addr) (c2 : Nat) (A3 : Option Addr) (c3 : Nat) (A : Option Addr) (c : Nat) (w : World) (hn : pl.length ≤ 140737488351232)
    (hbad : ¬ (mayB sp dst.length src.length tok.length ph (pn : Int) pnb = true ∧ 4 ≤ pnb + pl.length)) :
    Calls Tryd.prog 6 #[.agg (kyRow k), .agg (headC sp A1 dst.length c1 A2 src.length c2 A3 tok.length c3 ph (pn : Int) pnb), .slice A pl.length c] w fun e w' => e = .returned (.tuple #[.slice none 0 0, .int .i64 2]) ∧ Below w.heap.size w w' := by
  obtain ⟨hbe, h2, h3, h4⟩ := made2K w (kyRow k) (headC sp A1 dst.length c1 A2 src.length c2 A3 tok.length c3 ph (pn : Int) pnb) 27 30
  have HM := Lib.hid (hmay_any sp dst.length src.length tok.length ph A1 c1 A2 c2 A3 c3 (pn : Int) pnb)
  have hcase : mayB sp dst.length src.length tok.length ph (pn : Int) pnb = false ∨ (mayB sp dst.length src.length tok.length ph (pn : Int) pnb = true ∧ pnb + pl.length < 4 ∧ 1 ≤ pnb) := by
    cases hm : mayB sp dst.length src.length tok.length ph (pn : Int) pnb
    · exact .inl rfl
    · obtain ⟨f1, f2, f3, f4, f5, f6, f7, f8, f9⟩ := may_facts hm
      rw [hm] at hbad
      refine .inr ⟨rfl, ?_, by omega⟩
      by_cases h0 : pnb + pl.length < 4
      · exact h0
      · exact absurd ⟨rfl, by omega⟩ hbad
  have HIR := Lib.hid (info_headR sp A1 dst.length c1 A2 src.length c2 A3 tok.length c3 ph (pn : Int) pnb)
  have hr6 : (headC sp A1 dst.length c1 A2 src.length c2 A3 tok.length c3 ph (pn : Int) pnb)[6]? = some (.int .i64 pnb) := rfl
  clear hbad
  generalize mayB sp dst.length src.length tok.length ph (pn : Int) pnb = mb at *
  generalize headC sp A1 dst.length c1 A2 src.length c2 A3 tok.length c3 ph (pn : Int) pnb = R at *
  go_enter Tryd.func6, Tryd.ntmps6
  go_upto_region 1 with (fail)
  generalize (w.alloc (.cells (kyRow k) 27)).alloc (.cells R 30) = W at *
  obtain ⟨b, hb⟩ : ∃ b, b = w.heap.size := ⟨_, rfl⟩
  rw [← hb]
  rw [← hb] at h2 h3
  obtain ⟨h, hh⟩ : ∃ h, h = b + 1 := ⟨_, rfl⟩
  rw [← hh] at h3 ⊢
  have H3 := Lib.hid h3
  have HBE := Lib.hid hbe
  have HR6 := Lib.hid hr6
  clear hb hh h2 h3 h4 hbe hr6
  go_wp2_with (refine wpList_load_row rfl 30 (.tmp 4) rfl h rfl _ R _ _ H3.out Tryd.underlying30 rfl HIR.out ?_)
  refine (HM.out W).mono ?_
  rintro e w1 ⟨rfl, hb1⟩
  have hc6 : w1.cell? ⟨h, 6, none⟩ = some (.int .i64 pnb) := ((H3.out.below hb1 H3.out.lt).cell 6).trans HR6.out
  have HB1 := Lib.hid (HBE.out.trans (hb1.mono HBE.out.size))
  clear hb1 H3 HBE HR6 HIR HM
  rcases hcase with rfl | ⟨rfl, h0, h1⟩
  · go_wp2
    go_ret2
    exact ⟨rfl, HB1.out⟩
  · have hn0 : pl.length ≤ 3 := by omega
    have hd : decide (pnb + (pl.length : Int) + 16 < 20) = true := decide_eq_true (by omega)
    have hp4 : pnb ≤ 3 := by omega
    go_wp2
    all_goals
      go_ret2
      exact ⟨rfl, HB1.out⟩

set_option maxRecDepth 100000 in
set_option maxHeartbeats 1600000 in
theorem kseal_long (k : KS) (sp pn : Nat) (dst src tok pl : List UInt8) (ph : Bool) (pnb : Int) (A1 : Option Addr) (c1 : Nat) (A2 : Option Addr) (c2 : Nat) (A3 : Option Addr) (c3 : Nat) (A : Option Addr) (c : Nat) (w : World) (hn : pl.length ≤ 140737488351232)
    (hmay : mayB sp dst.length src.length tok.length ph (pn : Int) pnb = true) (hlong : 60000 < pl.length) :
    Calls Tryd.prog 6 #[.agg (kyRow k), .agg (headC sp A1 dst.length c1 A2 src.length c2 A3 tok.length c3 ph (pn : Int) pnb), .slice A pl.length c] w fun e w' => e = .returned (.tuple #[.slice none 0 0, .int .i64 3]) ∧ Below w.heap.size w w' := by
  obtain ⟨hbe, h2, h3, h4⟩ := made2K w (kyRow k) (headC sp A1 dst.length c1 A2 src.length c2 A3 tok.length c3 ph (pn : Int) pnb) 27 30
  have hmy := hmay_any sp dst.length src.length tok.length ph A1 c1 A2 c2 A3 c3 (pn : Int) pnb
  rw [hmay] at hmy
  have HM := Lib.hid hmy
  obtain ⟨f1, f2, f3, f4, f5, f6, f7, f8, f9⟩ := may_facts hmay
  have HIR := Lib.hid (info_headR sp A1 dst.length c1 A2 src.length c2 A3 tok.length c3 ph (pn : Int) pnb)
  have hr6 : (headC sp A1 dst.length c1 A2 src.length c2 A3 tok.length c3 ph (pn : Int) pnb)[6]? = some (.int .i64 pnb) := rfl
  clear hmay hmy f1 f2 f5 f6 f7 f8 f9
  generalize headC sp A1 dst.length c1 A2 src.length c2 A3 tok.length c3 ph (pn : Int) pnb = R at *
  go_enter Tryd.func6, Tryd.ntmps6
  go_upto_region 1 with (fail)
  generalize (w.alloc (.cells (kyRow k) 27)).alloc (.cells R 30) = W at *
  obtain ⟨b, hb⟩ : ∃ b, b = w.heap.size := ⟨_, rfl⟩
  rw [← hb]
  rw [← hb] at h2 h3
  obtain ⟨h, hh⟩ : ∃ h, h = b + 1 := ⟨_, rfl⟩
  rw [← hh] at h3 ⊢
  have H3 := Lib.hid h3
  have HBE := Lib.hid hbe
  have HR6 := Lib.hid hr6
  clear hb hh h2 h3 h4 hbe hr6
  go_wp2_with (refine wpList_load_row rfl 30 (.tmp 4) rfl h rfl _ R _ _ H3.out Tryd.underlying30 rfl HIR.out ?_)
  refine (HM.out W).mono ?_
  rintro e w1 ⟨rfl, hb1⟩
  have hc6 : w1.cell? ⟨h, 6, none⟩ = some (.int .i64 pnb) := ((H3.out.below hb1 H3.out.lt).cell 6).trans HR6.out
  have HB1 := Lib.hid (HBE.out.trans (hb1.mono HBE.out.size))
  clear hb1 H3 HBE HR6 HIR HM
  have hd : decide (pnb + (pl.length : Int) + 16 < 20) = false := decide_eq_false (by omega)
  have hd2 : decide ((60000 : Int) < (pl.length : Int)) = true := decide_eq_true (by omega)
  go_wp2
  all_goals
    go_ret2
    exact ⟨rfl, HB1.out⟩

set_option maxRecDepth 100000 in
set_option maxHeartbeats 3200000 in
theorem kseal_in (k : KS) (sp n pn : Nat) (dst src tok pl : List UInt8) (ph : Bool) (A1 : Option Addr) (c1 : Nat) (A2 : Option Addr) (c2 : Nat) (A3 : Option Addr) (c3 : Nat) (A : Option Addr) (c : Nat) (w : World)
    (hk : k.Ok) (hmay : mayB sp dst.length src.length tok.length ph (pn : Int) (n : Int) = true) (h4 : 4 ≤ n + pl.length) (hpl : pl.length ≤ 60000) (hlc : pl.length ≤ c) (hcm : c ≤ maxLen) (ht : tok.length ≤ 3000) (hT : Tab w)
    (hs1 : Sl w w.heap.size A1 dst) (hs2 : Sl w w.heap.size A2 src) (hs3 : Sl w w.heap.size A3 tok) (hs : Sl w w.heap.size A pl) :
    Calls Tryd.prog 6 #[.agg (kyRow k), .agg (headC sp A1 dst.length c1 A2 src.length c2 A3 tok.length c3 ph (pn : Int) (n : Int)), .slice A pl.length c] w
      (Gave w (packK k sp n pn (headB sp n dst src tok ph pn (pl.length + 16)) pl) fun v => .tuple #[v, .int .i64 0]) := by
  obtain ⟨i0, hi0, hz0, hz1, hz2⟩ := info_parts info8
  have HK := Deep.mk hk
  obtain ⟨hbe, h2, h3, hsz⟩ := made2K w (kyRow k) (headC sp A1 dst.length c1 A2 src.length c2 A3 tok.length c3 ph (pn : Int) (n : Int)) 27 30
  have hmy := hmay_any sp dst.length src.length tok.length ph A1 c1 A2 c2 A3 c3 (pn : Int) (n : Int)
  rw [hmay] at hmy
  have HM := Lib.hid hmy
  obtain ⟨f1, f2, f3, f4, f5, f6, f7, f8, f9⟩ := may_facts hmay
  have HIR := Lib.hid (info_headR sp A1 dst.length c1 A2 src.length c2 A3 tok.length c3 ph (pn : Int) (n : Int))
  have hr6 : (headC sp A1 dst.length c1 A2 src.length c2 A3 tok.length c3 ph (pn : Int) (n : Int))[6]? = some (.int .i64 (n : Int)) := rfl
  have hr5 : (headC sp A1 dst.length c1 A2 src.length c2 A3 tok.length c3 ph (pn : Int) (n : Int))[5]? = some (.int .u64 (pn : Int)) := rfl
  have hr0 : (headC sp A1 dst.length c1 A2 src.length c2 A3 tok.length c3 ph (pn : Int) (n : Int))[0]? = some (.int .u8 (sp : Int)) := rfl
  have hpn : pn ≤ 4611686018427387903 := by omega
  have hn1 : 1 ≤ n := by omega
  have hn4 : n ≤ 4 := by omega
  have HPUT : Hid (∀ w' : World, Tab w' → Sl w' w'.heap.size A1 dst → Sl w' w'.heap.size A2 src → Sl w' w'.heap.size A3 tok → Calls Tryd.prog 15 #[.agg (headC sp A1 dst.length c1 A2 src.length c2 A3 tok.length c3 ph (pn : Int) (n : Int)), .int .i64 ((pl.length : Int) + 16)] w' (Gave w' (headB sp n dst src tok ph pn (pl.length + 16)) fun v => .tuple #[v, .int .i64 0])) :=
    Lib.hid fun w' q1 q2 q3 q4 => ((hput_any sp dst src tok ph pn (n : Int) ((pl.length : Int) + 16) A1 c1 A2 c2 A3 c3 w' q2 q3 q4 ht q1).mono fun e w2 hg => by
      have := hg.1 ⟨hmay, by omega, by omega⟩
      rwa [Int.toNat_natCast, show ((pl.length : Int) + 16).toNat = pl.length + 16 by omega] at this)
  have hhl : n + 1 ≤ (headB sp n dst src tok ph pn (pl.length + 16)).length ∧ (headB sp n dst src tok ph pn (pl.length + 16)).length ≤ 4100 := by
    rw [headB, List.length_cons, List.length_append, be_length]
    refine ⟨by omega, ?_⟩
    have e3 : (longB sp dst src tok (n + (pl.length + 16))).length ≤ 4000 := by
      unfold longB
      have e1 := szN_le tok.length
      have e2 := szN_le (n + (pl.length + 16))
      split <;> simp [enc_length] <;> omega
    split <;> omega
  generalize headB sp n dst src tok ph pn (pl.length + 16) = H at *
  obtain ⟨hh1, hh2⟩ := hhl
  obtain ⟨m, hm⟩ : ∃ m, m = H.length := ⟨_, rfl⟩
  obtain ⟨p, hp⟩ : ∃ p, p = pl.length := ⟨_, rfl⟩
  have hS0 := (Sv.below hs hbe).keep hbe.size (fun _ _ => rfl)
  have hS1 := (Sv.below hs1 hbe).keep hbe.size (fun _ _ => rfl)
  have hS2 := (Sv.below hs2 hbe).keep hbe.size (fun _ _ => rfl)
  have hS3 := (Sv.below hs3 hbe).keep hbe.size (fun _ _ => rfl)
  have hT0 := hT.below hbe hT.lt
  clear hmay hmy f1 f2 f5 f6 f7 f8 f9 f3 f4 hs hs1 hs2 hs3 hT
  generalize headC sp A1 dst.length c1 A2 src.length c2 A3 tok.length c3 ph (pn : Int) (n : Int) = R at *
  rw [← hp] at h4 hpl hlc HPUT ⊢
  rw [← hm] at hh1 hh2
  have HPL := Deep.mk hp
  have HHM := Deep.mk hm
  clear hp hm ht
  go_enter Tryd.func6, Tryd.ntmps6
  go_upto_region 1 with (fail)
  generalize (w.alloc (.cells (kyRow k) 27)).alloc (.cells R 30) = W at *
  obtain ⟨b, hb⟩ : ∃ b, b = w.heap.size := ⟨_, rfl⟩
  rw [← hb]
  rw [← hb] at h2 h3
  obtain ⟨h, hh⟩ : ∃ h, h = b + 1 := ⟨_, rfl⟩
  rw [← hh] at h3 ⊢
  have hwb : w.heap.size ≤ b := by omega
  have hbh : b < h := by omega
  have H2 := Lib.hid h2
  have H3 := Lib.hid h3
  have HBE := Lib.hid hbe
  have HR6 := Lib.hid hr6
  have HR5 := Lib.hid hr5
  have HR0 := Lib.hid hr0
  have HS0 := Lib.hid hS0
  have HS1 := Lib.hid hS1
  have HS2 := Lib.hid hS2
  have HS3 := Lib.hid hS3
  have HT0 := Lib.hid hT0
  clear hb hh h2 h3 hsz hbe hr6 hr5 hr0 hS0 hS1 hS2 hS3 hT0
  go_wp2_with (refine wpList_load_row rfl 30 (.tmp 4) rfl h rfl _ R _ _ H3.out Tryd.underlying30 rfl HIR.out ?_)
  refine (HM.out W).mono ?_
  rintro e w1 ⟨rfl, hb1⟩
  have hc6 : w1.cell? ⟨h, 6, none⟩ = some (.int .i64 (n : Int)) := ((H3.out.below hb1 H3.out.lt).cell 6).trans HR6.out
  have HB1 := Lib.hid (HBE.out.trans (hb1.mono HBE.out.size))
  have H21 := Lib.hid (H2.out.below hb1 H2.out.lt)
  have H31 := Lib.hid (H3.out.below hb1 H3.out.lt)
  have HT1 := Lib.hid (HT0.out.below hb1 HT0.out.lt)
  have HS01 := Lib.hid ((Sv.below HS0.out hb1).keep hb1.size (fun _ _ => rfl))
  have HS11 := Lib.hid ((Sv.below HS1.out hb1).keep hb1.size (fun _ _ => rfl))
  have HS21 := Lib.hid ((Sv.below HS2.out hb1).keep hb1.size (fun _ _ => rfl))
  have HS31 := Lib.hid ((Sv.below HS3.out hb1).keep hb1.size (fun _ _ => rfl))
  clear hb1 H2 H3 HBE HM HT0 HS0 HS1 HS2 HS3
  have hd : decide ((n : Int) + (p : Int) + 16 < 20) = false := decide_eq_false (by omega)
  have hd2 : decide ((60000 : Int) < (p : Int)) = false := decide_eq_false (by omega)
  go_wp2_with (refine wpList_load_row rfl 30 (.tmp 4) rfl h rfl _ R _ _ H31.out Tryd.underlying30 rfl HIR.out ?_)
  refine (HPUT.out w1 HT1.out HS11.out HS21.out HS31.out).mono ?_
  rintro e w2 ⟨AH, cH, rfl, ha2, hb2c, hown2, hb2⟩
  have hmpos : 0 < H.length := by have := HHM.out; omega
  obtain ⟨hg, capH, eqH, hPq, hge, hcl, hcm2⟩ := Pq.of_own hown2 hmpos
  simp only [Value.slice.injEq] at eqH
  obtain ⟨rfl, hx0, rfl⟩ := eqH
  clear hx0
  rw [← HHM.out] at ha2 hown2
  rw [← HHM.out]
  obtain ⟨a, hax⟩ : ∃ a, a = m - n := ⟨_, rfl⟩
  have ha1 : 1 ≤ a := by omega
  have han : a + n = m := by omega
  have hai : (m : Int) - (n : Int) = (a : Int) := by omega
  have hc62 : w2.cell? ⟨h, 6, none⟩ = some (.int .i64 (n : Int)) := ((H31.out.below hb2 H31.out.lt).cell 6).trans HR6.out
  have hB2 := HB1.out.trans (hb2.mono HB1.out.size)
  have h22 := H21.out.below hb2 H21.out.lt
  have h32 := H31.out.below hb2 H31.out.lt
  have hs02 := (Sv.below HS01.out hb2).keep hb2.size (fun _ _ => rfl)
  have hhw1 : h < w1.heap.size := H31.out.lt
  have HOWN2 := Lib.hid hown2
  have HB2 := Lib.hid hB2
  have H22 := Lib.hid h22
  have H32 := Lib.hid h32
  have HS02 := Lib.hid hs02
  have HHG := Lib.hid (hPq.pb.lt)
  have hw1w : w.heap.size ≤ w1.heap.size := HB1.out.size
  clear hown2 hb2 hB2 h22 h32 hs02 H21 H31 HT1 HS01 HS11 HS21 HS31 HB1 hPq hmpos hc6 hax hd hd2 HPUT HIR
  go_upto_region 8 with (fail)
  clear hc62 hai
  have h2' := H22.out.below (Below.refl _ _).drew H22.out.lt
  have h3' := H32.out.below (Below.refl _ _).drew H32.out.lt
  have hB0 : Below w.heap.size w w2.drew := HB2.out.drew
  have hs0 := (Sv.below HS02.out ((Below.refl w2.heap.size _).drew)).keep (Nat.le_refl w2.drew.heap.size) (fun _ _ => rfl)
  have how0 := own_below HOWN2.out ((Below.refl w2.heap.size _).drew)
  have hhg0 : hg < w2.drew.heap.size := HHG.out
  have hw12 : w1.heap.size ≤ w2.drew.heap.size := Nat.le_of_lt (Nat.lt_of_le_of_lt hge hhg0)
  clear H22 H32 HB2 HS02 HOWN2 HHG
  refine wp_region_held_drew (S := fun w' => SinceX hg w2.drew w') (by kernel_rfl) (SinceX.self _ _) (fun _ => ?_)
  generalize w2.drew = w0 at *
  have rk := ky_key h2' HK.out
  have ri := ky_iv h2' HK.out
  have lb0 := h2'.lt
  have lh0 := h3'.lt
  have hbg : b ≠ hg := by omega
  have hhg : h ≠ hg := by omega
  have hc5 := (h3'.cell 5).trans HR5.out
  have hkl := HK.out.key
  have hil := HK.out.iv
  have hno : ∀ w' : World, Calls Tryd.prog 17 #[.agg (aRow k.iv), .int .u64 (pn : Int)] w' fun e w2 => e = .returned (.agg (aRow (nonK k.iv pn))) ∧ Below w'.heap.size w' w2 := fun w' => nonce_any k.iv pn w' hil (by omega)
  have hnl := nonK_len hil pn
  have hraw : rawK k pn H pl = H ++ sealK k.key (nonK k.iv pn) H pl := rfl
  have hsel := sealK_len k.key (nonK k.iv pn) H pl
  have hse : ∀ (w' : World) (h1 : Sl w' w'.heap.size (some ⟨hg, 0, none⟩) H) (h2 : Sl w' w'.heap.size A pl), Calls Tryd.prog 16 #[.agg (aRow k.key), .agg (aRow (nonK k.iv pn)), .slice (some ⟨hg, 0, none⟩) H.length cH, .slice A pl.length c] w' (GaveO w' (sealK k.key (nonK k.iv pn) H pl)) :=
    fun w' h1 h2 => gcseal_any k.key (nonK k.iv pn) H pl _ A cH c w' hkl hnl h1 (by have := HHM.out; omega) hcm2 (by have := HHM.out; omega) h2 (by have := HPL.out; omega) hcm (by have := HPL.out; omega)
  generalize nonK k.iv pn = N at *
  generalize sealK k.key N H pl = BX at *
  rw [← HHM.out, ← HPL.out] at hse
  rw [← HPL.out] at hsel
  have HNO := Lib.hid hno
  have HSE := Lib.hid hse
  have HRAW := Deep.mk hraw
  have HSEL := Deep.mk hsel
  have HNL := Deep.mk hnl
  have HKL := Deep.mk hkl
  have HIL := Deep.mk hil
  have HC5 := Lib.hid hc5
  clear hno hse hraw hsel hnl hkl hil hc5
  refine wpAnyH_take (i := 0) (v := .slice (some ⟨hg, 0, none⟩) m cH) (List.getElem?_toArray.trans rfl) (by kernel_rfl) (by kernel_rfl) (by kernel_rfl) (fun _ _ _ h => h) (.inl ⟨rfl, fun w' hS => rfl⟩) (SinceX.self _ _) ?_
  refine act_normS (by simp only [Act.put, List.setIfInBounds_toArray, List.set_cons_zero, List.set_cons_succ]; rfl) ?_
  refine wpAnyH_take (i := 1) (v := .pointer (some ⟨b, 32, none⟩)) (List.getElem?_toArray.trans rfl) (by kernel_rfl) (by kernel_rfl) (by kernel_rfl) (fun _ _ _ h => h) (.inl ⟨rfl, fun w' hS => by simp [go_sem]⟩) (SinceX.self _ _) ?_
  refine act_normS (by simp only [Act.put, List.setIfInBounds_toArray, List.set_cons_zero, List.set_cons_succ]; rfl) ?_
  refine wpAnyH_take (i := 2) (v := .agg (aRow k.key)) (List.getElem?_toArray.trans rfl) (by kernel_rfl) (by kernel_rfl) (by kernel_rfl) (fun _ _ _ h => h) (yieldsIf_load_mid (by rfl) 23 (.tmp 44) rfl b 32 rfl (k.key.map cell8) _ (fun w' hS => SinceX.range hS rk lb0 hbg) Tryd.underlying23 rfl (by rw [List.length_map, HKL.out]; exact info_k16)) (SinceX.self _ _) ?_
  refine act_normS (by simp only [Act.put, List.setIfInBounds_toArray, List.set_cons_zero, List.set_cons_succ]; rfl) ?_
  refine wpAnyH_take (i := 3) (v := .pointer (some ⟨b, 48, none⟩)) (List.getElem?_toArray.trans rfl) (by kernel_rfl) (by kernel_rfl) (by kernel_rfl) (fun _ _ _ h => h) (.inl ⟨rfl, fun w' hS => by simp [go_sem]⟩) (SinceX.self _ _) ?_
  refine act_normS (by simp only [Act.put, List.setIfInBounds_toArray, List.set_cons_zero, List.set_cons_succ]; rfl) ?_
  refine wpAnyH_take (i := 4) (v := .agg (aRow k.iv)) (List.getElem?_toArray.trans rfl) (by kernel_rfl) (by kernel_rfl) (by kernel_rfl) (fun _ _ _ h => h) (yieldsIf_load_mid (by rfl) 24 (.tmp 46) rfl b 48 rfl (k.iv.map cell8) _ (fun w' hS => SinceX.range hS ri lb0 hbg) Tryd.underlying24 rfl (by rw [List.length_map, HIL.out]; exact info_k12)) (SinceX.self _ _) ?_
  refine act_normS (by simp only [Act.put, List.setIfInBounds_toArray, List.set_cons_zero, List.set_cons_succ]; rfl) ?_
  refine wpAnyH_take (i := 5) (v := .pointer (some ⟨h, 5, none⟩)) (List.getElem?_toArray.trans rfl) (by kernel_rfl) (by kernel_rfl) (by kernel_rfl) (fun _ _ _ h => h) (.inl ⟨rfl, fun w' hS => by simp [go_sem]⟩) (SinceX.self _ _) ?_
  refine act_normS (by simp only [Act.put, List.setIfInBounds_toArray, List.set_cons_zero, List.set_cons_succ]; rfl) ?_
  refine wpAnyH_take (i := 6) (v := .int .u64 (pn : Int)) (List.getElem?_toArray.trans rfl) (by kernel_rfl) (by kernel_rfl) (by kernel_rfl) (fun _ _ _ h => h) (.inl ⟨rfl, fun w' hS => by have hc := (World.cell?_of_block (hS.block h lh0 (fun e => hhg (Option.some.inj e)))).trans HC5.out; simp [go_sem, hc]⟩) (SinceX.self _ _) ?_
  refine act_normS (by simp only [Act.put, List.setIfInBounds_toArray, List.set_cons_zero, List.set_cons_succ]; rfl) ?_
  refine wpAnyH_take (i := 8) (v := .slice (some ⟨hg, 0, none⟩) m cH) (List.getElem?_toArray.trans rfl) (by kernel_rfl) (by kernel_rfl) (by kernel_rfl) (fun _ _ _ h => h) (.inl ⟨rfl, fun w' hS => rfl⟩) (SinceX.self _ _) ?_
  refine act_normS (by simp only [Act.put, List.setIfInBounds_toArray, List.set_cons_zero, List.set_cons_succ]; rfl) ?_
  refine wpAnyH_take (i := 9) (v := .slice A p c) (List.getElem?_toArray.trans rfl) (by kernel_rfl) (by kernel_rfl) (by kernel_rfl) (fun _ _ _ h => h) (.inl ⟨rfl, fun w' hS => rfl⟩) (SinceX.self _ _) ?_
  refine act_normS (by simp only [Act.put, List.setIfInBounds_toArray, List.set_cons_zero, List.set_cons_succ]; rfl) ?_
  refine wpAnyH_ready (rs := [7]) (by kernel_rfl) (by simp) (AllReadyH.cons (List.getElem?_toArray.trans rfl) (fun K' hK => ?_) AllReadyH.nil)
  refine wanted_goS rfl ?_
  go_simp
  refine (HNO.out w0).mono ?_
  rintro e w3 ⟨rfl, hb3⟩
  have hS3 : SinceX hg w0 w3 := SinceX.of hb3
  have how3 := own_below how0 hb3
  have hs3 := (Sv.below hs0 hb3).keep hb3.size (fun _ _ => rfl)
  refine hK.out _ _ hS3 (fun _ => ?_)
  clear hK K'
  refine wpAnyH_ready (rs := [10]) (by kernel_rfl) (by simp) (AllReadyH.cons (List.getElem?_toArray.trans rfl) (fun K' hK => ?_) AllReadyH.nil)
  refine wanted_goS rfl ?_
  go_simp
  refine (HSE.out w3 (Sv.of_own how3) hs3).mono ?_
  rintro e w4 ⟨A4, c4, rfl, ha4, hc4, ho4, hb4⟩
  rw [HSEL.out] at ha4 ho4
  rw [HSEL.out]
  have hS4 : SinceX hg w0 w4 := SinceX.trans hS3 (SinceX.of hb4)
  have how4 := own_below how3 hb4
  have hB4 := (hB0.trans (hb3.mono hB0.size)).trans (hb4.mono (Nat.le_trans hB0.size hb3.size))
  refine hK.out _ _ hS4 (fun _ => ?_)
  clear hK K'
  refine wpAnyH_ready (rs := [11]) (by kernel_rfl) (by simp) (AllReadyH.cons (List.getElem?_toArray.trans rfl) (fun K' hK => ?_) AllReadyH.nil)
  refine step_app_sv rfl (.tmp 43) (.tmp 53) _ rfl w1.heap.size 5 i0 _ 1 Tryd.underlying28 hi0 hz0 hz1 hz2 rfl (.slice (some ⟨hg, 0, none⟩) m cH) m (H.map cell8) rfl how4 _ A4 (p + 16) c4 (BX.map cell8) rfl (Sv.of_own ho4) (by rw [List.length_map, HSEL.out]) (cell8_one _) (by unfold maxLen; omega) (by omega) (Nat.le_trans hw12 (Nat.le_trans hb3.size hb4.size)) ?_
  intro v5 w5 ho5 hg5
  rw [← List.map_append, ← HRAW.out] at ho5
  have hS5 : SinceX hg w0 w5 := SinceX.trans hS4 hg5
  have hB5 : Below w.heap.size w w5 := hB4.grown hg5 hB4.size (fun q hq => by have : hg = q := Option.some.inj hq; omega)
  refine hK.out _ _ hS5 (fun _ => ?_)
  clear hK K'
  refine wpAnyH_take (i := 12) (v := v5) (List.getElem?_toArray.trans rfl) (by kernel_rfl) (by kernel_rfl) (by kernel_rfl) (fun _ _ _ h => h) (.inl ⟨rfl, fun w' hS => rfl⟩) hS5 ?_
  refine act_normS (by simp only [Act.put, List.setIfInBounds_toArray, List.set_cons_zero, List.set_cons_succ]; rfl) ?_
  refine wpAnyH_done (by kernel_rfl) ?_ _
  have hrl : (rawK k pn H pl).length = m + (p + 16) := by rw [raw_len, ← HHM.out, ← HPL.out]
  obtain ⟨gp, cp, rfl, hPq5, hgp, hcp1, hcp2⟩ := Pq.of_own ho5 (by omega)
  have h25 := SinceX.wh hS5 h2' hbg
  have h35 := SinceX.wh hS5 h3' hhg
  have hpk : packK k sp n pn H pl = protK (mkK k.hp (rawK k pn H pl) (H.length - n)) (rawK k pn H pl) sp n (H.length - n) := rfl
  rw [← HHM.out, show m - n = a by omega] at hpk
  generalize rawK k pn H pl = RW at *
  have HPK := Deep.mk hpk
  have HRL := Deep.mk hrl
  have HPQ5 := Lib.hid hPq5
  have H25 := Lib.hid h25
  have H35 := Lib.hid h35
  have HB5 := Lib.hid hB5
  have hbp : b ≠ gp := by omega
  have hhp : h ≠ gp := by omega
  clear hrl ho5 hg5 hS5 hB4 hS4 how4 ho4 hb4 hS3 how3 hs3 hb3 hB0 hs0 how0 h2' h3' rk ri hPq5 h25 h35 hB5 hpk HNO HSE HRAW HSEL HNL HKL HIL HC5 hc4 ha4
  have HRG := Lib.hid (ky_hpr H25.out HK.out)
  have HHL := Deep.mk HK.out.hp
  have hmo : ∀ (w' : World), Sl w' w'.heap.size (some ⟨gp, 0, none⟩) RW → Calls Tryd.prog 18 #[.agg (aRow k.hp), .slice (some ⟨gp, 0, none⟩) (m + (p + 16)) cp, .int .i64 (a : Int)] w' fun e w2 => e = .returned (.agg (aRow (mkK k.hp RW a))) ∧ Below w'.heap.size w' w2 :=
    fun w' h1 => maskOf_any k.hp RW _ _ cp a w' HHL.out HRL.out (by omega) hcp1 (by omega) h1
  have hml := mk_len k.hp RW a
  generalize mkK k.hp RW a = M at *
  have HML := Deep.mk hml
  have HMO := Lib.hid hmo
  have HSL5 := Lib.hid (HPQ5.out.pb.sl)
  clear hmo hml
  go_wp2_with (refine wpList_load_mid rfl 23 (.tmp 55) rfl b 60 rfl (k.hp.map cell8) _ HRG.out Tryd.underlying23 rfl (by rw [List.length_map, HHL.out]; exact info_k16) ?_)
  refine (HMO.out w5 HSL5.out).mono ?_
  rintro e w6 ⟨rfl, hb6⟩
  have HPQ6 := Lib.hid (HPQ5.out.since hb6)
  have H36 := Lib.hid (H35.out.below hb6 H35.out.lt)
  have HB6 := Lib.hid (HB5.out.trans (hb6.mono HB5.out.size))
  clear hb6 HRG HMO HSL5 H25 H35 HB5 HPQ5
  go_upto_region 10 with (first
    | (refine wpList_allocZ rfl 55 rfl (aRow (List.replicate 16 0)) (zero_mask _) ?_)
    | (refine wpList_store_row rfl 55 (.tmp 13) (.tmp 59) rfl w6.heap.size (aRow M) rfl rfl _ _ (heap_alloc_new w6 _) (info_maskR HML.out) (by rw [aRow_size, aRow_size, HML.out]; rfl) (aRow_one _) ?_; rw [World.setRow_alloc_new]))
  obtain ⟨mb, hmb⟩ : ∃ mb, mb = w6.heap.size := ⟨_, rfl⟩
  have hbm : Below w6.heap.size w6 (w6.alloc (.cells (aRow M) 55)) := (Below.refl _ _).alloc (Nat.le_refl _) _
  have h7 := Wh.new w6 55 (aRow M)
  have hpq7 := HPQ6.out.since hbm
  have h37 := H36.out.below hbm H36.out.lt
  have hb7 := HB6.out.trans (hbm.mono HB6.out.size)
  have hgm : gp < mb := by rw [hmb]; exact HPQ6.out.pb.lt
  rw [← hmb] at h7 ⊢
  generalize w6.alloc (.cells (aRow M) 55) = w7 at *
  have k7 := h7.below (Below.refl _ _).drew h7.lt
  have q7 := hpq7.since (Below.refl _ _).drew
  have k37 := h37.below (Below.refl _ _).drew h37.lt
  have b7 : Below w.heap.size w w7.drew := hb7.drew
  clear hmb hbm h7 hpq7 h37 hb7 HPQ6 H36 HB6
  refine wp_region_held_drew (S := fun w' => SinceX gp w7.drew w') (by kernel_rfl) (SinceX.self _ _) (fun _ => ?_)
  generalize w7.drew = w0 at *
  have rm : w0.rangeAt mb 0 (M.map cell8) := by have := row_rangeS k7; rwa [aRow_list] at this
  have lm := k7.lt
  have lh7 := k37.lt
  have hmg : mb ≠ gp := by omega
  have hcs := (k37.cell 0).trans HR0.out
  have hx0 : 0 < RW.length := by rw [HRL.out]; omega
  have hcb := q7.pb.cell hx0
  have hfb := q7.pb.frozen 0
  obtain ⟨x, hx⟩ : ∃ x, x = RW.getD 0 0 := ⟨_, rfl⟩
  rw [← hx] at hcb
  have hfi : ∀ w' : World, Calls Tryd.prog 19 #[.agg (aRow M), .int .u8 (x.toNat : Int), .int .u8 (sp : Int)] w' fun e w2 => e = .returned (.int .u8 ((firstK M x sp).toNat : Int)) ∧ Below w'.heap.size w' w2 := fun w' => mfirst_any M x sp w' HML.out
  have hpr : protK M RW sp n a = jnP M (RW.set 0 (firstK M x sp)) a n := by rw [hx]; rfl
  generalize firstK M x sp = y at *
  have HFI := Lib.hid hfi
  have HPR := Deep.mk hpr
  have HCS := Lib.hid hcs
  have hlen0 : ¬ ((m : Int) + ((p : Int) + 16) ≤ 0) := by omega
  clear hfi hpr hcs hx hx0
  refine wpAnyH_take (i := 0) (v := .slice (some ⟨gp, 0, none⟩) (m + (p + 16)) cp) (List.getElem?_toArray.trans rfl) (by kernel_rfl) (by kernel_rfl) (by kernel_rfl) (fun _ _ _ h => h) (.inl ⟨rfl, fun w' hS => rfl⟩) (SinceX.self _ _) ?_
  refine act_normS (by simp only [Act.put, List.setIfInBounds_toArray, List.set_cons_zero, List.set_cons_succ]; rfl) ?_
  refine wpAnyH_take (i := 1) (v := .agg (aRow M)) (List.getElem?_toArray.trans rfl) (by kernel_rfl) (by kernel_rfl) (by kernel_rfl) (fun _ _ _ h => h) (yieldsIf_load_mid (by rfl) 55 (.tmp 13) rfl mb 0 rfl (M.map cell8) _ (fun w' hS => SinceX.range hS rm lm hmg) Tryd.underlying55 rfl (by rw [List.length_map, HML.out]; exact info_mask)) (SinceX.self _ _) ?_
  refine act_normS (by simp only [Act.put, List.setIfInBounds_toArray, List.set_cons_zero, List.set_cons_succ]; rfl) ?_
  refine wpAnyH_take (i := 2) (v := .slice (some ⟨gp, 0, none⟩) (m + (p + 16)) cp) (List.getElem?_toArray.trans rfl) (by kernel_rfl) (by kernel_rfl) (by kernel_rfl) (fun _ _ _ h => h) (.inl ⟨rfl, fun w' hS => rfl⟩) (SinceX.self _ _) ?_
  refine act_normS (by simp only [Act.put, List.setIfInBounds_toArray, List.set_cons_zero, List.set_cons_succ]; rfl) ?_
  refine wpAnyH_take (i := 3) (v := .pointer (some ⟨gp, 0, none⟩)) (List.getElem?_toArray.trans rfl) (by kernel_rfl) (by kernel_rfl) (by kernel_rfl) (fun _ _ _ h => h) (.inl ⟨rfl, fun w' hS => by simp [go_sem, hlen0]⟩) (SinceX.self _ _) ?_
  refine act_normS (by simp only [Act.put, List.setIfInBounds_toArray, List.set_cons_zero, List.set_cons_succ]; rfl) ?_
  refine wpAnyH_take (i := 5) (v := .pointer (some ⟨h, 0, none⟩)) (List.getElem?_toArray.trans rfl) (by kernel_rfl) (by kernel_rfl) (by kernel_rfl) (fun _ _ _ h => h) (.inl ⟨rfl, fun w' hS => by simp [go_sem]⟩) (SinceX.self _ _) ?_
  refine act_normS (by simp only [Act.put, List.setIfInBounds_toArray, List.set_cons_zero, List.set_cons_succ]; rfl) ?_
  refine wpAnyH_take (i := 6) (v := .int .u8 (sp : Int)) (List.getElem?_toArray.trans rfl) (by kernel_rfl) (by kernel_rfl) (by kernel_rfl) (fun _ _ _ h => h) (.inl ⟨rfl, fun w' hS => by have hc := (World.cell?_of_block (hS.block h lh7 (fun e => hhp (Option.some.inj e)))).trans HCS.out; simp [go_sem, hc]⟩) (SinceX.self _ _) ?_
  refine act_normS (by simp only [Act.put, List.setIfInBounds_toArray, List.set_cons_zero, List.set_cons_succ]; rfl) ?_
  refine wpAnyH_ready (rs := [4]) (by kernel_rfl) (by simp) (AllReadyH.cons (List.getElem?_toArray.trans rfl) (fun K' hK => ?_) AllReadyH.nil)
  refine wanted_goS rfl ?_
  go_simp
  refine hK.out _ _ (SinceX.self _ _) (fun _ => ?_)
  clear hK K'
  refine wpAnyH_ready (rs := [7]) (by kernel_rfl) (by simp) (AllReadyH.cons (List.getElem?_toArray.trans rfl) (fun K' hK => ?_) AllReadyH.nil)
  refine wanted_goS rfl ?_
  go_simp
  refine (HFI.out w0).mono ?_
  rintro e w8 ⟨rfl, hb8⟩
  have hS8 : SinceX gp w0 w8 := SinceX.of hb8
  have q8 := q7.since hb8
  have b8 := b7.trans (hb8.mono b7.size)
  have hcb8 := q8.pb.cell (j := 0) (by rw [HRL.out]; omega)
  have hfb8 := q8.pb.frozen 0
  refine hK.out _ _ hS8 (fun _ => ?_)
  clear hK K'
  refine wpAnyH_take (i := 8) (v := .pointer (some ⟨gp, 0, none⟩)) (List.getElem?_toArray.trans rfl) (by kernel_rfl) (by kernel_rfl) (by kernel_rfl) (fun _ _ _ h => h) (.inl ⟨rfl, fun w' hS => by simp [go_sem, hlen0]⟩) hS8 ?_
  refine act_normS (by simp only [Act.put, List.setIfInBounds_toArray, List.set_cons_zero, List.set_cons_succ]; rfl) ?_
  have q9 := q8.put 0 y
  have g9 := grown_set w8 gp 0 (.int .u8 (y.toNat : Int))
  have hS9 : SinceX gp w0 (w8.setCell ⟨gp, 0, none⟩ (.int .u8 (y.toNat : Int))) := SinceX.put hS8 g9
  refine wpAnyH_ready (rs := [9]) (by kernel_rfl) (by simp) (AllReadyH.cons (List.getElem?_toArray.trans rfl) (fun K' hK => ?_) AllReadyH.nil)
  refine wanted_goS rfl ?_
  go_simp
  refine hK.out _ _ hS9 (fun _ => ?_)
  clear hK K'
  refine wpAnyH_done (by kernel_rfl) ?_ _
  have k9 := SinceX.wh hS9 k7 hmg
  have b9 := below_grownA b8 g9 (by omega) b8.size
  have hpl2 : (RW.set 0 y).length = m + (p + 16) := by rw [List.length_set, HRL.out]
  have hcut : ∀ w' : World, (Instr.sliceAt 28 (.slice (some ⟨gp, 0, none⟩) (m + (p + 16)) cp) (some (.int .i64 (a : Int))) (some (.int .i64 (m : Int))) none).run Tryd.prog w' = .ok (.slice (some ⟨gp, a, none⟩) n (cp - a)) w' := fun w' => by
    rw [run_cut2 (some ⟨gp, 0, none⟩) (m + (p + 16)) cp a m (by omega) (by omega) w', cutA, if_neg (by omega), show m - a = n by omega]
    simp [Addr.add_lit]
  generalize w8.setCell ⟨gp, 0, none⟩ (.int .u8 (y.toNat : Int)) = w9 at *
  generalize RW.set 0 y = L9 at *
  have HK9 := Lib.hid k9
  have HQ9 := Lib.hid q9
  have HB9 := Lib.hid b9
  have HL9 := Deep.mk hpl2
  have HCUT := Deep.mk hcut
  clear hcut k7 q7 k37 b7 rm lm lh7 hcb hfb HFI HCS hb8 hS8 q8 b8 hcb8 hfb8 q9 g9 hS9 k9 b9 hpl2 hlen0 HR0
  go_upto_region 11 with (fail)
  have k0 := HK9.out.below (Below.refl _ _).drew HK9.out.lt
  have q0 := HQ9.out.since (Below.refl _ _).drew
  have b0 : Below w.heap.size w w9.drew := HB9.out.drew
  clear HK9 HQ9 HB9
  refine wp_region_held_drew (S := fun w' => SinceX gp w9.drew w') (by kernel_rfl) (SinceX.self _ _) (fun _ => ?_)
  generalize w9.drew = w0 at *
  have rm : w0.rangeAt mb 0 (M.map cell8) := by have := row_rangeS k0; rwa [aRow_list] at this
  have lm := k0.lt
  refine wpAnyH_take (i := 0) (v := .agg (aRow M)) (List.getElem?_toArray.trans rfl) (by kernel_rfl) (by kernel_rfl) (by kernel_rfl) (fun _ _ _ h => h) (yieldsIf_load_mid (by rfl) 55 (.tmp 13) rfl mb 0 rfl (M.map cell8) _ (fun w' hS => SinceX.range hS rm lm hmg) Tryd.underlying55 rfl (by rw [List.length_map, HML.out]; exact info_mask)) (SinceX.self _ _) ?_
  refine act_normS (by simp only [Act.put, List.setIfInBounds_toArray, List.set_cons_zero, List.set_cons_succ]; rfl) ?_
  refine wpAnyH_take (i := 1) (v := .slice (some ⟨gp, 0, none⟩) (m + (p + 16)) cp) (List.getElem?_toArray.trans rfl) (by kernel_rfl) (by kernel_rfl) (by kernel_rfl) (fun _ _ _ h => h) (.inl ⟨rfl, fun w' hS => rfl⟩) (SinceX.self _ _) ?_
  refine act_normS (by simp only [Act.put, List.setIfInBounds_toArray, List.set_cons_zero, List.set_cons_succ]; rfl) ?_
  refine wpAnyH_take (i := 2) (v := .int .i64 (a : Int)) (List.getElem?_toArray.trans rfl) (by kernel_rfl) (by kernel_rfl) (by kernel_rfl) (fun _ _ _ h => h) (.inl ⟨rfl, fun w' hS => rfl⟩) (SinceX.self _ _) ?_
  refine act_normS (by simp only [Act.put, List.setIfInBounds_toArray, List.set_cons_zero, List.set_cons_succ]; rfl) ?_
  refine wpAnyH_take (i := 3) (v := .int .i64 (m : Int)) (List.getElem?_toArray.trans rfl) (by kernel_rfl) (by kernel_rfl) (by kernel_rfl) (fun _ _ _ h => h) (.inl ⟨rfl, fun w' hS => rfl⟩) (SinceX.self _ _) ?_
  refine act_normS (by simp only [Act.put, List.setIfInBounds_toArray, List.set_cons_zero, List.set_cons_succ]; rfl) ?_
  refine wpAnyH_take (i := 4) (v := .slice (some ⟨gp, a, none⟩) n (cp - a)) (List.getElem?_toArray.trans rfl) (by kernel_rfl) (by kernel_rfl) (by kernel_rfl) (fun _ _ _ h => h) (yieldsIf_slice (by rfl) 28 (.tmp 70) (some (.tmp 71)) (some (.tmp 72)) none rfl _ (fun w' hS => HCUT.out w')) (SinceX.self _ _) ?_
  refine act_normS (by simp only [Act.put, List.setIfInBounds_toArray, List.set_cons_zero, List.set_cons_succ]; rfl) ?_
  refine wpAnyH_ready (rs := [5]) (by kernel_rfl) (by simp) (AllReadyH.cons (List.getElem?_toArray.trans rfl) (fun K' hK => ?_) AllReadyH.nil)
  refine wanted_goS rfl ?_
  go_simp
  refine (mturn_any M L9 gp a n (cp - a) cp w0 HML.out (by omega) (by rw [HL9.out]; omega) (by rw [HL9.out]; omega) q0).mono ?_
  rintro e w10 ⟨rfl, q10, g10⟩
  have hS10 : SinceX gp w0 w10 := SinceX.put (SinceX.self _ _) g10
  refine hK.out _ _ hS10 (fun _ => ?_)
  clear hK K'
  refine wpAnyH_done (by kernel_rfl) ?_ _
  rw [← HPR.out, ← HPK.out] at q10
  have b10 := below_grownA b0 g10 (by omega) b0.size
  have hfl : (packK k sp n pn H pl).length = m + (p + 16) := by rw [pack_len, ← HHM.out, ← HPL.out]
  obtain ⟨F, hF⟩ : ∃ F, F = packK k sp n pn H pl := ⟨_, rfl⟩
  rw [← hF] at q10 hfl
  have HQ10 := Lib.hid q10
  have HB10 := Lib.hid b10
  have HFL := Deep.mk hfl
  have HF := Deep.mk hF
  clear k0 q0 b0 rm lm q10 g10 hS10 b10 hfl hF HPR HPK HCUT
  go_wp2_with fail
  go_ret2
  have ho := HQ10.out.own (base := w.heap.size) (by omega) HFL.out hcp1 hcp2
  refine ⟨some ⟨gp, 0, none⟩, cp, ?_, ?_, hcp2, ?_, HB10.out⟩
  · rw [← HF.out, HFL.out]
    rfl
  · rw [← HF.out, HFL.out]
    exact hcp1
  · rw [← HF.out, HFL.out]
    exact ho
end Go.Proofs.YtbnnjkjmadnjkaaDoor
