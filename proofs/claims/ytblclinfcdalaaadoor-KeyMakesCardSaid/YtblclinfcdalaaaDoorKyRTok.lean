/-
  The document's own Token (hostlerref10).
-/
import Derived.Test.YtblclinfcdalaaaDoorOwn
import Derived.Test.YtblclinfcdalaaaDoorKyRNext
import Derived.Test.YtblclinfcdalaaaDoorKyTok
namespace Go.Proofs.YtblclinfcdalaaaDoor
open Go.RowKit
set_option linter.unusedVariables false

theorem take_one_more {l : List UInt8} {k : Nat} (h : k < l.length) : l.take k ++ [l.getD k 0] = l.take (k + 1) := by
  rw [List.take_succ_eq_append_getElem h]
  simp [List.getD, h]

set_option maxRecDepth 100000 in
set_option maxHeartbeats 1600000 in
theorem rtoken_any (static cid : List UInt8) (A : Option Addr) (m c : Nat) (w : World) (hst : static.length = 32) (hl : cid.length = m) (hlc : m ≤ c) (hcm : c ≤ maxLen) (hs : Sl w w.heap.size A cid) (hmax : m ≤ 1000000) :
    Calls Tryd.prog 14 #[.agg (bRow static), .slice A m c] w fun e w' => e = .returned (.agg (bRow (tokK static cid))) ∧ Below w.heap.size w w' := by
  obtain ⟨i0, hi0, hz0, hz1, hz2⟩ := info_parts info8
  have HL := Deep.mk hl
  have HST := Deep.mk hst
  obtain ⟨hbe, h2, h3, h4⟩ := made2K w (bRow static) (bRow (List.replicate 16 0)) 22 35
  have HSW := Lib.hid ((Sv.below hs hbe).keep hbe.size (fun _ _ => rfl))
  clear hs hl hst
  go_enter Tryd.func14, Tryd.ntmps14
  go_upto_region 1 with (refine wpList_allocZ rfl 35 rfl (bRow (List.replicate 16 0)) (zero_tok _) ?_)
  rw [show (w.alloc (.cells (bRow static) 22)).heap.size = w.heap.size + 1 by simp]
  generalize (w.alloc (.cells (bRow static) 22)).alloc (.cells (bRow (List.replicate 16 0)) 35) = W at *
  obtain ⟨b, hb⟩ : ∃ b, b = w.heap.size := ⟨_, rfl⟩
  obtain ⟨r, hr⟩ : ∃ r, r = w.heap.size + 1 := ⟨_, rfl⟩
  rw [← hb] at h2
  rw [← hr] at h3 h4
  rw [← hr, ← hb]
  have hwb : w.heap.size ≤ b := by omega
  have hbr : b < r := by omega
  have hrW : r < W.heap.size := by omega
  have H2 := Lib.hid h2
  have H3 := Lib.hid h3
  have HBE := Lib.hid hbe
  clear hb hr h2 h3 hbe h4
  obtain ⟨B, hB⟩ : ∃ B, B = W.heap.size := ⟨_, rfl⟩
  have hBW : B ≤ W.heap.size := by omega
  have hrB : r < B := by omega
  have HBq := Deep.mk hB
  have HO0 : Hid (OwB B 5 W W (.slice none 0 0) (static.take 0)) := Lib.hid ⟨by rw [List.take_zero]; simpa using World.ownsRow_nil W B 5 1, by rw [hB]; exact Below.refl _ _, hBW⟩
  clear hB hrW
  go_wp2_with fail
  go_loopw [5, 6] (fun v i wr => ∃ k : Nat, k ≤ 32 ∧ i = .int .i64 (k : Int) ∧ (∃ A' c', v = .slice A' k c') ∧ Hid (OwB B 5 W wr v (static.take k))) (fun _ i _ => 32 - (intOf i).toNat)
  case atStart => exact ⟨0, by omega, rfl, ⟨none, 0, rfl⟩, HO0⟩
  case round =>
    obtain ⟨k, hk, rfl, ⟨A1, c1, rfl⟩, HO⟩ := hrel
    clear HO0
    by_cases hlt : k < 32
    · have hkl : k < static.length := by have := HST.out; omega
      have hs := (World.cell?_of_block (HO.out.2.1.block b (by omega))).trans ((H2.out.cell k).trans (bRow_at hkl))
      have hst := take_one_more hkl
      generalize hx : static.getD k 0 = x at *
      have HST1 := Deep.mk hst
      have t1 : decide ((k : Int) < 32) = true := decide_eq_true (by omega)
      have hown := HO.out.1
      have hll : (static.take k).length = k := by rw [List.length_take]; omega
      rw [hll] at hown
      have hbz := HO.out.2.2
      have HLL := Deep.mk hll
      have HX := Deep.mk hx
      clear hst hkl hll hx
      go_wp2_with (first
        | (at_builtin; refine wpList_append_sv _ rfl (.tmp 14) (.tmp 18) _ rfl B 5 i0 _ 1 Tryd.underlying23 hi0 hz0 hz1 hz2 rfl (.slice A1 k c1) _ _ rfl (hown.alloc _) _ _ 1 1 [.int .u8 (x.toNat : Int)] rfl (sv_new _ _ _) rfl (fun u hu => by simp at hu; subst hu; rfl) (by unfold maxLen; omega) (by omega) (by simp; omega) ?_; intro v2 w2 hown2 hg2 hat2; have HO3 := Lib.hid (HO.out.more x _ (by rw [HLL.out]; exact hown2) hg2); clear hg2 hat2 hown2))
      have HO4 : Hid (OwB B 5 W w2 v2 (static.take (k + 1))) := by
        have h := HO3.out
        rw [HST1.out] at h
        exact Lib.hid h
      obtain ⟨A2, c2, e2, _, _⟩ := own_form HO4.out.1
      have hl2 : (static.take (k + 1)).length = k + 1 := by rw [List.length_take]; have := HST.out; omega
      rw [hl2] at e2
      subst e2
      refine ⟨⟨k + 1, by omega, rfl, ⟨A2, c2, rfl⟩, HO4⟩, by simp [intOf]; omega⟩
    · have hkd : decide ((k : Int) < 32) = false := by rw [decide_eq_false_iff_not]; omega
      have hfull : static.take k = static := List.take_of_length_le (by have := HST.out; omega)
      have hkl : static.length = k := by have := HST.out; omega
      have ho := HO.out
      rw [hfull] at ho
      obtain ⟨_, _, e, h51, h52⟩ := own_form ho.1
      simp only [Value.slice.injEq] at e
      obtain ⟨rfl, hk0, rfl⟩ := e
      clear hk0
      have ho1 := ho.1
      rw [hkl] at h51 ho1
      have HSS := Lib.hid (Sv.of_own ho1 : Sl wr wr.heap.size A1 static)
      have HKL := Deep.mk hkl
      clear ho1 hkl
      have hbw : Below W.heap.size W wr := by have := ho.2.1; rwa [HBq.out] at this
      have HCS := Lib.hid ((Sv.below HSW.out hbw).keep hbw.size (fun _ _ => rfl) : Sl wr wr.heap.size A cid)
      have H31 := Lib.hid (H3.out.below hbw H3.out.lt)
      have HB1 := Lib.hid (HBE.out.trans (hbw.mono HBE.out.size))
      have hk32 : k ≤ 1000000 := by omega
      clear HO ho hfull hlt hk hbw H2 H3 HBE HSW
      go_wp2_with fail
      refine (rmac_any static cid A1 k c1 A m c wr HKL.out h51 h52 HSS.out hk32 HL.out hlc hcm HCS.out (by omega)).mono ?_
      rintro e w1 ⟨rfl, hb1⟩
      have htk : tokK static cid = (macK kW static cid).take 16 := rfl
      have hml : (macK kW static cid).length = 32 := macK_len _ _ _
      generalize macK kW static cid = M at *
      have HML := Deep.mk hml
      have HTK := Deep.mk htk
      have hl16 : (M.take 16).length = 16 := by rw [List.length_take, hml]; rfl
      have HL16 := Deep.mk hl16
      have H32 := Lib.hid (H31.out.below hb1 H31.out.lt)
      have HB2 := Lib.hid (HB1.out.trans (hb1.mono HB1.out.size))
      clear htk hml hl16 hb1 H31 HB1 HSS HCS hkd
      go_upto_region 8 with (first
        | (refine wpList_allocZ rfl 22 rfl (bRow (List.replicate 32 0)) (zero_b32 _) ?_)
        | (refine wpList_allocZ rfl 35 rfl (bRow (List.replicate 16 0)) (zero_tok _) ?_)
        | (refine wpList_store_row rfl 22 (.tmp 7) (.tmp 22) rfl w1.heap.size (bRow M) rfl rfl _ _ (heap_alloc_new w1 _) (info_bRow HML.out) (by rw [bRow_size, bRow_size, HML.out]; rfl) (bRow_one _) ?_; rw [World.setRow_alloc_new]))
      rw [show (w1.alloc (.cells (bRow M) 22)).heap.size = w1.heap.size + 1 by simp]
      obtain ⟨hbe3, h53, h63, hsz3⟩ := made2K w1 (bRow M) (bRow (List.replicate 16 0)) 22 35
      obtain ⟨n, hn⟩ : ∃ n, n = w1.heap.size := ⟨_, rfl⟩
      obtain ⟨o, ho⟩ : ∃ o, o = w1.heap.size + 1 := ⟨_, rfl⟩
      have h33 := H32.out.below hbe3 H32.out.lt
      have hrn : r < n := by rw [hn]; exact H32.out.lt
      have hb3 := HB2.out.trans (hbe3.mono HB2.out.size)
      rw [← hn] at h53
      rw [← ho] at h63
      rw [← ho, ← hn]
      generalize (w1.alloc (.cells (bRow M) 22)).alloc (.cells (bRow (List.replicate 16 0)) 35) = w3 at *
      have hno : n < o := by omega
      have H53 := Lib.hid h53
      have H63 : Hid (Wh w3 o 35 (bRow (fillN (M.take 16) 0))) := Lib.hid (by rw [fillN_0, HL16.out]; exact h63)
      have H33 := Lib.hid h33
      have HB3 := Lib.hid hb3
      clear hn ho h53 h63 h33 hb3 hbe3 hsz3 H32 HB2
      go_wp2_with fail
      go_loopw [9] (fun i wr => ∃ k : Nat, k ≤ 16 ∧ i = .int .i64 (k : Int) ∧ Hid (Wh wr o 35 (bRow (fillN (M.take 16) k))) ∧ Hid (w3.grownBy wr (some o))) (fun i _ => 16 - (intOf i).toNat)
      case atStart => exact ⟨0, by omega, rfl, H63, Lib.hid (World.grownBy.refl _ _)⟩
      case round =>
        obtain ⟨k, hk, rfl, HW, HG⟩ := hrel
        clear H63
        by_cases hlt : k < 16
        · have hkl : k < (M.take 16).length := by have := HL16.out; omega
          have hv := (HW.out.cell k).trans (bRow_at (by rw [fillN_len _ k (by omega)]; exact hkl))
          have hf := HW.out.frozen k
          have hkm : k < M.length := by have := HML.out; omega
          have hgd : (M.take 16).getD k 0 = M.getD k 0 := by
            rw [List.getD_eq_getElem?_getD, List.getD_eq_getElem?_getD, List.getElem?_take_of_lt hlt]
          have hs := (World.cell?_of_block (HG.out.block n (by have := H53.out.lt; omega) (by intro e; have := Option.some.inj e; omega))).trans ((H53.out.cell k).trans (bRow_at hkm))
          have hst := fillN_set (M.take 16) k hkl
          rw [hgd] at hst
          generalize hy : (fillN (M.take 16) k).getD k 0 = y at *
          generalize hx : M.getD k 0 = x at *
          have HS1 := Deep.mk hst
          have t1 : decide ((k : Int) < 16) = true := decide_eq_true (by omega)
          have hne : ¬ n = o := by omega
          clear hx hy hst hkl hkm hgd
          go_wp2
          refine ⟨⟨k + 1, by omega, rfl, ?_, ?_⟩, by simp [intOf]; omega⟩
          · have h := bRow_put HW.out k x
            rw [HS1.out] at h
            exact Lib.hid h
          · exact Lib.hid (grown_trans HG.out (grown_set _ _ _ _))
        · have hkd : decide ((k : Int) < 16) = false := by rw [decide_eq_false_iff_not]; omega
          have HW16 : Hid (Wh wr o 35 (bRow (M.take 16))) := by
            have h := HW.out
            rw [show k = (M.take 16).length by have := HL16.out; omega, fillN_all] at h
            exact Lib.hid h
          have HR16 : Hid (Wh wr r 35 (bRow (List.replicate 16 0))) := Lib.hid (H33.out.grown HG.out (by intro e; have := Option.some.inj e; omega))
          have HBW := Lib.hid (below_grown HB3.out HG.out (by omega) HB3.out.size)
          generalize M.take 16 = T at *
          clear HW HG hlt hk H53 H33 HB3
          go_wp2_with (first
            | (refine wpList_load_row rfl 35 (.tmp 8) rfl o rfl _ (bRow T) _ _ HW16.out Tryd.underlying35 rfl (info_tokR HL16.out) ?_)
            | (refine wpList_store_row rfl 35 (.tmp 4) (.tmp 32) rfl r (bRow T) rfl rfl _ _ HR16.out (info_tokR HL16.out) (by rw [bRow_size, bRow_size, HL16.out]; rfl) (bRow_one _) ?_))
          refine bodyPost_ret (v := .agg (bRow T)) (results_cell_row Tryd.results14 _ _ r _ _ (0, 0) _ rfl (setRow_heap _ r _ _ _ _ HR16.out) Tryd.underlying35 rfl (info_tokR HL16.out)) rfl ?_
          exact ⟨by rw [HTK.out], below_setRow HBW.out (by omega) _⟩
end Go.Proofs.YtblclinfcdalaaaDoor
