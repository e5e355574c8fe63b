/-
  sha.text's add: parts of a text that come one behind the other.
-/
import Derived.Test.YtbnnjkjmadnjkaaDoorSk10
namespace Go.Proofs.YtbnnjkjmadnjkaaDoor
open Go.RowKit
set_option linter.unusedVariables false

theorem step_copy_row {P : Program} {ops : Array Oper} {o : Oper} {a : Act} {w : World} {K : Act → World → Prop} {Q : Exit → Act → World → Prop} {E : Prop} (hgd : o.guard = none) (d s : Operand) (dT sT : TypeId)
    (ho : o.op = .call { callee := .builtin .copy, args := #[d, s], argTypes := #[dT, sT] }) (elem : TypeId) (hu : P.underlying dT = some (.slice elem)) (hsz : (P.info? elem).map (·.size) = some 1)
    (g off dLen dCap : Nat) (ad : Addr) (sLen sCap : Nat) (hd : a.eval d = .slice (some ⟨g, off, none⟩) dLen dCap) (hs : a.eval s = .slice (some ad) sLen sCap)
    (cur : Array Value) (t : TypeId) (hg : w.heap[g]? = some (.cells cur t (0, 0))) (cs : List Value) (hn : cs.length = Nat.min sLen dLen)
    (hsrc : ∀ j v, cs[j]? = some v → w.cell? (ad.add j) = some v) (hfit : off + cs.length ≤ cur.size) (h1 : ∀ v ∈ cs, v.oneCell' = true)
    (n : Nat) (hcn : cs.length = n)
    (row : Array Value) (hrow : (cur.toList.take off ++ (cs ++ cur.toList.drop (off + cs.length))).toArray = row)
    (h : K (a.put o.dst (goInt n)) (w.setRow g row)) : if Region.wanted o (yielded ops a.tmps) = true then Oper.wp P o a w K Q else E := by
  have hw : Region.wanted o (yielded ops a.tmps) = true := by simp [Region.wanted, hgd]
  rw [if_pos hw]
  subst hrow
  subst hcn
  have hrun := run_copy_row (P := P) w dT sT o.type elem g off dLen dCap ad sLen sCap cur t cs hu hsz hg hn hsrc hfit h1
  unfold Oper.wp
  simp [execOp, ho, resolve, invoke, builtin, hd, hs, hrun, Result.andThen]
  exact h

/-- The text that came, in memory. -/
def TX (w : World) (g : Nat) (ks : List W32) (L : List UInt8) : Prop := ∃ blk, TB L blk ∧ Wh w g 140 (tRow ks L blk)

/-- A part, and parts, that lie outside block g. -/
def PartIs (w : World) (g : Nat) (v : Value) (l : List UInt8) : Prop := ∃ A c, v = .slice A l.length c ∧ l.length ≤ c ∧ c ≤ maxLen ∧ Sx w g A (l.map cell8)
def Parts (w : World) (g : Nat) (vs : List Value) (ps : List (List UInt8)) : Prop := vs.length = ps.length ∧ ∀ (i : Nat) (v : Value) (l : List UInt8), vs[i]? = some v → ps[i]? = some l → PartIs w g v l

theorem PartIs.grown {w w' : World} {g : Nat} {v : Value} {l : List UInt8} (h : PartIs w g v l) (hb : w.grownBy w' (some g)) : PartIs w' g v l := by
  obtain ⟨A, c, rfl, h1, h2, h3⟩ := h
  exact ⟨A, c, rfl, h1, h2, h3.grown hb⟩
theorem Parts.grown {w w' : World} {g : Nat} {vs : List Value} {ps : List (List UInt8)} (h : Parts w g vs ps) (hb : w.grownBy w' (some g)) : Parts w' g vs ps :=
  ⟨h.1, fun i v l hv hl => (h.2 i v l hv hl).grown hb⟩

theorem KT.grown {w w' : World} {g : Nat} {ks : List W32} (h : KT w ks) (hb : w.grownBy w' (some g)) (hk : 0 < w.heap.size) (hg : 0 ≠ g) : KT w' ks := by
  obtain ⟨t, fr, h⟩ := h
  exact ⟨t, fr, (hb.block _ hk (fun e => hg (Option.some.inj e))).trans h⟩

/-- A slice's length. -/
def lenOf : Value → Nat
  | .slice _ n _ => n
  | _ => 0

theorem grown_setRow' (w : World) (g : Nat) (cs : Array Value) : w.grownBy (w.setRow g cs) (some g) :=
  ⟨rfl, rfl, rfl, by simp [World.setRow], fun k _ hne => setRow_other w g k cs (fun e => hne (by rw [e]))⟩
theorem row_copy (S : List Value) (B x : List UInt8) (v : Value) (k : Nat) (hS : S.length = 8) (hB : B.length = 64) (hk : k + x.length ≤ 64) :
    ((S ++ (B.map cell8 ++ [v])).toArray.toList.take (8 + k) ++ (x.map cell8 ++ (S ++ (B.map cell8 ++ [v])).toArray.toList.drop (8 + k + (x.map cell8).length))).toArray
      = (S ++ ((B.take k ++ (x ++ B.drop (k + x.length))).map cell8 ++ [v])).toArray := by
  congr 1
  simp only [List.length_map, List.map_append, List.map_take, List.map_drop]
  rw [List.take_append, List.take_of_length_le (by omega : S.length ≤ 8 + k), List.drop_append, List.drop_eq_nil_of_le (by omega : S.length ≤ 8 + k + x.length), hS]
  rw [show 8 + k - 8 = k by omega, show 8 + k + x.length - 8 = k + x.length by omega]
  rw [List.take_append_of_le_length (by simp; omega), List.drop_append_of_le_length (by simp; omega)]
  simp

theorem flat_le (ps : List (List UInt8)) (k : Nat) (p : List UInt8) (h : ps[k]? = some p) : (ps.take k).flatten.length + p.length ≤ ps.flatten.length := by
  obtain ⟨hk, rfl⟩ := List.getElem?_eq_some_iff.1 h
  have e : ps = ps.take k ++ ps[k] :: ps.drop (k + 1) := by
    have h1 := List.drop_eq_getElem_cons hk
    rw [← h1, List.take_append_drop]
  have := congrArg (fun l => (List.flatten l).length) e
  simp only [List.flatten_append, List.flatten_cons, List.length_append] at this
  omega

set_option maxRecDepth 100000 in
set_option maxHeartbeats 400000 in
theorem add_any (g : Nat) (ks : List W32) (L : List UInt8) (ps : List (List UInt8)) (vs : List Value) (A : Option Addr) (len c : Nat) (w : World) (hks : ks.length = 64) (hK : KT w ks) (hKb : 0 < w.heap.size) (hKg : 0 ≠ g)
    (hT : TX w g ks L) (hA : Sx w g A vs) (hvl : vs.length = len) (hlc : len ≤ c) (hcm : c ≤ maxLen) (hP : Parts w g vs ps) (hmax : L.length + ps.flatten.length ≤ 16777216) :
    Calls Tryd.prog 85 #[.pointer (some ⟨g, 0, none⟩), .slice A len c] w fun e w' => e = .returned (.tuple #[]) ∧ w.grownBy w' (some g) ∧ TX w' g ks (L ++ ps.flatten) := by
  have HKS := Lib.hid hks
  have HK := Lib.hid hK
  have HT := Lib.hid hT
  have HA := Lib.hid hA
  have HV := Lib.hid hvl
  have HP := Lib.hid hP
  have HX := Lib.hid hmax
  unfold maxLen at hcm
  clear hks hK hT hA hvl hP hmax
  go_enter Tryd.func85, Tryd.ntmps85
  go_wp2
  go_loopw [5, 6, 9] (fun _ _ i wr => ∃ k : Nat, k ≤ len ∧ i = .int .i64 (k : Int) ∧ Hid (w.grownBy wr (some g)) ∧ Hid (TX wr g ks (L ++ (ps.take k).flatten))) (fun _ _ i _ => len - (intOf i).toNat)
  case atStart => exact ⟨0, by omega, rfl, Lib.hid (World.grownBy.refl _ _), Lib.hid (by simpa using HT.out)⟩
  case round =>
    obtain ⟨k, hk, rfl, HG, HTX⟩ := hrel
    by_cases hlt : k < len
    · generalize wr = w1 at *
      obtain ⟨v, hv⟩ : ∃ v, vs[k]? = some v := ⟨_, List.getElem?_eq_getElem (by rw [HV.out]; exact hlt)⟩
      obtain ⟨p, hp⟩ : ∃ p, ps[k]? = some p := ⟨_, List.getElem?_eq_getElem (by rw [← HP.out.1, HV.out]; exact hlt)⟩
      obtain ⟨Ap, cp, rfl, hp1, hp2, hp3⟩ := (HP.out.2 k v p hv hp).grown HG.out
      obtain ⟨b, off, rfl, hb, hbg, hcell⟩ := (HA.out.grown HG.out) (by intro e; rw [e] at hv; simp at hv)
      have hck := hcell k _ hv
      have HP3 := Lib.hid hp3
      have HPV := Lib.hid hv
      have HPP := Lib.hid hp
      clear hcell hv hp hp3
      go_wp2
      obtain ⟨L1, hL1⟩ : ∃ L1, L1 = L ++ (ps.take k).flatten := ⟨_, rfl⟩
      rw [← hL1] at HTX
      have hsum : L1.length + p.length ≤ 16777216 := by
        have h1 := HX.out
        have h2 := flat_le ps k p HPP.out
        rw [hL1, List.length_append]
        omega
      have HL1 := Deep.mk hL1
      have HSUM := Lib.hid hsum
      clear hL1 hsum
      go_loopw [5, 6] (fun v _ wr => ∃ (d r : List UInt8) (A' : Option Addr) (c' : Nat), Deep (p = d ++ r) ∧ v = .slice A' r.length c' ∧ r.length ≤ c' ∧ c' ≤ 9223372036854775807 ∧ Hid (Sx wr g A' (r.map cell8)) ∧ Hid (TX wr g ks (L1 ++ d)) ∧ Hid (w1.grownBy wr (some g))) (fun v _ _ => lenOf v)
      case atStart => exact ⟨[], p, Ap, cp, ⟨rfl⟩, rfl, hp1, (by unfold maxLen at hp2; omega), HP3, Lib.hid (by simpa using HTX.out), Lib.hid (World.grownBy.refl _ _)⟩
      case round =>
        obtain ⟨d, r, A', c', HPD, rfl, hrc, hcm', HSX, HTD, HGD⟩ := hrel
        by_cases hr0 : 0 < r.length
        · obtain ⟨blk, hTB, hWh⟩ := HTD.out
          have hb64 := hTB.1
          obtain ⟨L2, hL2⟩ : ∃ L2, L2 = L1 ++ d := ⟨_, rfl⟩
          rw [← hL2] at hTB hWh
          obtain ⟨n, hn⟩ : ∃ n, n = L2.length := ⟨_, rfl⟩
          obtain ⟨m, hm⟩ : ∃ m, m = n % 64 := ⟨_, rfl⟩
          obtain ⟨x, hx⟩ : ∃ x, x = r.take (64 - m) := ⟨_, rfl⟩
          obtain ⟨q, hq⟩ : ∃ q, q = x.length := ⟨_, rfl⟩
          have hm64 : m < 64 := by omega
          have hq2 : q ≤ r.length ∧ q ≤ 64 - m ∧ 1 ≤ q ∧ (q = r.length ∨ q = 64 - m) := by rw [hq, hx, List.length_take]; omega
          have hnq : n + r.length ≤ 16777216 := by
            have h1 := HSUM.out
            have h2 := HPD.out
            rw [hn, hL2, List.length_append]
            rw [h2, List.length_append] at h1
            omega
          obtain ⟨b2, off2, rfl, hb2, hbg2, hcell2⟩ := HSX.out (by intro e; rw [List.map_eq_nil_iff] at e; rw [e] at hr0; simp at hr0)
          have c72 : wr.cell? ⟨g, 72, none⟩ = some (.int .u64 (n : Int)) := by
            rw [hWh.cell, tRow]
            simp only [List.getElem?_toArray]
            rw [List.getElem?_append_right (by simp [S8.len]), List.getElem?_append_right (by simp [S8.len, hb64])]
            simp [S8.len, hb64, hn]
          have f72 := hWh.frozen 72
          have hlenx : (x.map cell8).length = Nat.min r.length (64 - m) := by
            rw [List.length_map, hx, List.length_take]
            exact Nat.min_comm _ _
          have hsrc : ∀ j v, (x.map cell8)[j]? = some v → wr.cell? ((⟨b2, off2, none⟩ : Addr).add j) = some v := by
            intro j v hv
            rw [Addr.add_lit]
            refine hcell2 j v ?_
            rw [hx, List.map_take, List.getElem?_take] at hv
            split at hv
            · exact hv
            · cases hv
          have hfit : 8 + m + (x.map cell8).length ≤ (tRow ks L2 blk).size := by
            rw [List.length_map, ← hq]
            simp [tRow, S8.len, hb64]
            omega
          have hqx : (x.map cell8).length = q := by rw [List.length_map, hq]
          have hmL : L2.length % 64 = m := by rw [hm, hn]
          have hrow : ((tRow ks L2 blk).toList.take (8 + m) ++ (x.map cell8 ++ (tRow ks L2 blk).toList.drop (8 + m + (x.map cell8).length))).toArray = ((stB ks L2 (L2.length / 64)).l.map cw ++ ((putB L2 blk x).map cell8 ++ [Value.int .u64 (L2.length : Int)])).toArray := by
            have h := row_copy ((stB ks L2 (L2.length / 64)).l.map cw) blk x (Value.int .u64 (L2.length : Int)) m (by simp [S8.len]) hb64 (by omega)
            rw [putB, hmL]
            exact h
          obtain ⟨R, hR⟩ : ∃ R, R = ((stB ks L2 (L2.length / 64)).l.map cw ++ ((putB L2 blk x).map cell8 ++ [Value.int .u64 (L2.length : Int)])).toArray := ⟨_, rfl⟩
          rw [← hR] at hrow
          have hpl : (putB L2 blk x).length = 64 := putB_len hTB (by omega)
          have hR72 : R[72]? = some (.int .u64 (n : Int)) := by
            rw [hR]
            simp only [List.getElem?_toArray]
            rw [List.getElem?_append_right (by simp [S8.len]), List.getElem?_append_right (by simp [S8.len, hpl])]
            simp [S8.len, hpl, hn]
          have HR := Deep.mk hR
          have HR72 := Lib.hid hR72
          have HPL := Deep.mk hpl
          have HROW := Deep.mk hrow
          have HLX := Deep.mk hlenx
          have HSRC := Deep.mk hsrc
          have HFIT := Deep.mk hfit
          have HQX := Deep.mk hqx
          have HWH := Lib.hid hWh
          have HTB := Deep.mk hTB
          have HL2 := Deep.mk hL2
          have HN := Deep.mk hn
          have HM := Deep.mk hm
          have HXX := Deep.mk hx
          have HQ := Deep.mk hq
          have HC2 := Deep.mk hcell2
          have hNm : (n : Int) % 64 = (m : Int) := by omega
          obtain ⟨hq3, hq4, hq5, hq6⟩ := hq2
          have HQ6 := Deep.mk hq6
          have HMl := Deep.mk hmL
          clear hR hR72 hpl hrow hlenx hsrc hfit hqx hWh hTB hL2 hn hm hx hq hcell2 hq6 hmL hb64
          have hNt : (n : Int).tmod 64 = (m : Int) := by rw [Int.tmod_eq_emod_of_nonneg (by omega)]; exact hNm
          have hm1 : (m : Int) ≤ 64 := by omega
          have hm2 : ¬ (64 = m) := by omega
          go_wp2_with fail
          go_region_law (refine step_copy_row rfl (.tmp 24) (.tmp 25) 28 28 rfl 5 Tryd.underlying28 (by kernel_rfl) g (8 + m) (64 - m) (64 - m) ⟨b2, off2, none⟩ r.length c' rfl rfl (tRow ks L2 blk) _ HWH.out (x.map cell8) HLX.out HSRC.out HFIT.out (cell8_one x) q HQX.out _ HROW.out ?_)
          clear hNm hNt hm1 hm2 c72 f72
          have hW3 : Wh (wr.drew.setRow g R) g 140 R := setRow_heap wr.drew g _ _ _ _ HWH.out
          have hG3 : wr.grownBy (wr.drew.setRow g R) (some g) := grown_trans (grown_drewN (World.grownBy.refl wr _) 1) (grown_setRow' _ g R)
          generalize wr.drew.setRow g R = w3 at *
          have c72 : w3.cell? ⟨g, 72, none⟩ = some (.int .u64 (n : Int)) := (hW3.cell 72).trans HR72.out
          have f72 := hW3.frozen 72
          have HW3 := Lib.hid hW3
          have HG3 := Lib.hid (grown_trans HGD.out hG3)
          have HSX3 := Lib.hid (HSX.out.grown hG3)
          clear hW3 hG3 HSX HWH HSRC HC2 HROW HTX HTD HGD
          have hput : R.setIfInBounds 72 (.int .u64 ((n : Int) + (q : Int))) = ((stB ks L2 (L2.length / 64)).l.map cw ++ ((putB L2 blk x).map cell8 ++ [Value.int .u64 ((L2 ++ x).length : Int)])).toArray := by
            rw [HR.out, List.setIfInBounds_toArray, List.set_append_right _ _ (by simp [S8.len]), List.set_append_right _ _ (by simp [S8.len, HPL.out])]
            simp [S8.len, HPL.out, HN.out, HQ.out]
          have hW4 := HW3.out.put 72 (.int .u64 ((n : Int) + (q : Int)))
          rw [hput] at hW4
          have hG4 : w3.grownBy (w3.setCell ⟨g, 72, none⟩ (.int .u64 ((n : Int) + (q : Int)))) (some g) := grown_set _ _ _ _
          have HW4 := Lib.hid hW4
          have HG4 := Lib.hid (grown_trans HG3.out hG4)
          have HSX4 := Lib.hid (HSX3.out.grown hG4)
          clear hput hW4 hG4
          have HSXD : Hid (Sx (w3.setCell ⟨g, 72, none⟩ (.int .u64 ((n : Int) + (q : Int)))) g (some ⟨b2, off2 + q, none⟩) ((r.drop q).map cell8)) := by
            intro hne
            obtain ⟨b', o', e, h1, h2, h3⟩ := HSX4.out (by intro e; rw [List.map_eq_nil_iff] at e; rw [e] at hr0; simp at hr0)
            simp only [Option.some.injEq, Addr.mk.injEq, and_true] at e
            obtain ⟨rfl, rfl⟩ := e
            refine ⟨b2, off2 + q, rfl, h1, h2, fun i v hv => ?_⟩
            rw [Nat.add_assoc]
            refine h3 (q + i) v ?_
            rw [← hv, List.map_drop, List.getElem?_drop]
          have HPD2 : Deep (p = (d ++ x) ++ r.drop q) := ⟨by
            rw [HPD.out, List.append_assoc, show x = r.take q by rw [HXX.out]; have := HQ6.out; rcases this with h | h
                                                                 · rw [h, List.take_length, List.take_of_length_le (by omega)]
                                                                 · rw [h], List.take_append_drop]⟩
          have hdl : (r.drop q).length = r.length - q := List.length_drop
          have HDL := Lib.hid hdl
          clear hdl HSX3 HSX4
          by_cases hfull : m + q = 64
          · have e1 : ((n : Int) + (q : Int)) % 64 = 0 := by have := HM.out; omega
            by_cases hcq : c' = q
            all_goals
              go_wp2
              clear e1 c72 f72 HW3 HG3
              generalize w3.setCell ⟨g, 72, none⟩ (.int .u64 ((n : Int) + (q : Int))) = w4 at *
              have hgw : g < w4.heap.size := HW4.out.lt
              have hbb : ∀ j y, (putB L2 blk x)[j]? = some y → w4.drew.cell? ⟨g, 8 + j, none⟩ = some (cell8 y) := by
                intro j y hy
                refine (HW4.out.cell (8 + j)).trans ?_
                simp only [List.getElem?_toArray]
                rw [List.getElem?_append_right (by simp [S8.len]), List.length_map, S8.len, show 8 + j - 8 = j by omega, List.getElem?_append_left (by rw [List.length_map]; exact (List.getElem?_eq_some_iff.1 hy).1), List.getElem?_map, hy]
                rfl
              have hKT : KT w4 ks := HK.out.grown (grown_trans HG.out HG4.out) hKb hKg
              have hKs : 0 < w4.heap.size := Nat.lt_of_lt_of_le hKb (grown_trans HG.out HG4.out).size
              have HBB := Deep.mk hbb
              have HKT := Lib.hid hKT
              clear hbb hKT
              go_region_law (go_simp; go_at_call 91; refine (take_any g 8 g ks (stB ks L2 (L2.length / 64)) _ 140 (putB L2 blk x) w4.drew HKS.out HKT.out hKs hgw hgw HPL.out HBB.out HW4.out).mono ?_; rintro e w5 ⟨rfl, hg5, hw5⟩)
              have hTX : TX w5 g ks (L1 ++ (d ++ x)) := by
                obtain ⟨hf1, hf2⟩ := TB.full (x := x) ks HTB.out (by rw [HMl.out, ← HQ.out]; exact hfull)
                rw [← List.append_assoc, ← HL2.out]
                refine ⟨_, hf1, ?_⟩
                rw [tRow, hf2]
                exact hw5
              have hG5 : w1.grownBy w5 (some g) := grown_trans HG4.out (grown_trans (grown_drewN (World.grownBy.refl w4 (some g)) 1) hg5)
              have hS5 := (HSXD.out.grown (grown_drewN (World.grownBy.refl w4 (some g)) 1)).grown hg5
              have HTX5 := Lib.hid hTX
              have HG5 := Lib.hid hG5
              have HS5 := Lib.hid hS5
              clear hTX hG5 hS5 hg5 hw5
              go_wp2
              first
                | (refine ⟨⟨d ++ x, r.drop q, some ⟨b2, off2 + q, none⟩, c' - q, HPD2, ?_, ?_, ?_, HS5, HTX5, HG5⟩, ?_⟩; (rw [HDL.out]); (rw [HDL.out]; omega); omega; (simp only [lenOf]; omega))
                | (refine ⟨⟨d ++ x, r.drop q, some ⟨b2, off2, none⟩, 0, HPD2, ?_, ?_, ?_, ?_, HTX5, HG5⟩, ?_⟩; (rw [HDL.out]); (rw [HDL.out]; omega); omega; (rw [List.drop_eq_nil_of_le (by omega)]; exact Sx.nil _ _ _); (simp only [lenOf]; omega))
          · have e1 : decide (((n : Int) + (q : Int)) % 64 = 0) = false := by
              rw [decide_eq_false_iff_not]
              have := HM.out
              have := HQ6.out
              omega
            have e2 : (((n : Int) + (q : Int)) % 64 == 0) = false := by simpa using e1
            by_cases hcq : c' = q
            all_goals
              go_wp2
              clear e1 e2 c72 f72 HW3 HG3
              generalize w3.setCell ⟨g, 72, none⟩ (.int .u64 ((n : Int) + (q : Int))) = w4 at *
              have hTX : TX w4 g ks (L1 ++ (d ++ x)) := by
                obtain ⟨hf1, hf2⟩ := TB.some_ (x := x) HTB.out (by rw [HMl.out, ← HQ.out]; omega)
                rw [← List.append_assoc, ← HL2.out]
                refine ⟨_, hf1, ?_⟩
                rw [tRow, hf2]
                exact HW4.out
              have HTX5 := Lib.hid hTX
              first
                | (refine ⟨⟨d ++ x, r.drop q, some ⟨b2, off2 + q, none⟩, c' - q, HPD2, ?_, ?_, ?_, HSXD, HTX5, HG4⟩, ?_⟩; (rw [HDL.out]); (rw [HDL.out]; omega); omega; (simp only [lenOf]; omega))
                | (refine ⟨⟨d ++ x, r.drop q, some ⟨b2, off2, none⟩, 0, HPD2, ?_, ?_, ?_, ?_, HTX5, HG4⟩, ?_⟩; (rw [HDL.out]); (rw [HDL.out]; omega); omega; (rw [List.drop_eq_nil_of_le (by omega)]; exact Sx.nil _ _ _); (simp only [lenOf]; omega))
        · obtain rfl : r = [] := List.eq_nil_of_length_eq_zero (by omega)
          have HPd : Deep (p = d) := ⟨by rw [HPD.out, List.append_nil]⟩
          have HTe : Hid (TX wr g ks (L ++ (ps.take (k + 1)).flatten)) := by
            have h := HTD.out
            rw [← HPd.out, HL1.out] at h
            rw [List.take_add_one, HPP.out]
            show TX _ _ _ _
            simpa using h
          have HGe := Lib.hid (grown_trans HG.out HGD.out)
          clear HTD HPD hr0
          go_wp2
          exact ⟨⟨k + 1, by omega, rfl, HGe, HTe⟩, by simp [intOf]; omega⟩
    · have hkd : decide ((k : Int) < (len : Int)) = false := by rw [decide_eq_false_iff_not]; omega
      have HTe : Hid (TX wr g ks (L ++ ps.flatten)) := by
        have h := HTX.out
        rw [List.take_of_length_le (by rw [← HP.out.1, HV.out]; omega)] at h
        exact Lib.hid h
      clear HTX hk
      go_wp2
      go_end0
      exact ⟨rfl, HG.out, HTe.out⟩
end Go.Proofs.YtbnnjkjmadnjkaaDoor
