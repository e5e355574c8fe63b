/-
  hostlerref08.Columns: the document's own columns.
-/
import Derived.Deep.RegionHeld3
import Derived.Test.YtblclinfcdalaaaDoorAsColM
import Derived.Test.YtblclinfcdalaaaDoorSb27
namespace Go.Proofs.YtblclinfcdalaaaDoor
open Go.RowKit
set_option linter.unusedVariables false

/-- append, as one step of a region that draws: where the row then lies. -/
theorem step_app_svA {P : Program} {ops : Array Oper} {o : Oper} {a : Act} {w : World} {K : Act → World → Prop} {Q : Exit → Act → World → Prop} {E : Prop} (hgd : o.guard = none) (s x : Operand) (t : TypeId)
    (ho : o.op = .call { callee := .builtin .append, args := #[s, x], argTypes := #[t, t] })
    (base : Nat) (e : TypeId) (i : TypeInfo) (z : Value) (bytes : Nat) (ht : P.underlying t = some (.slice e)) (hi : P.info? e = some i) (hz : i.zero = some z)
    (hsize : i.size = 1) (hby : i.bytes = bytes) (hzs : z.cells.size = 1)
    (v : Value) (n : Nat) (xs : List Value) (hs : a.eval s = v) (hown : w.ownsRow base e 1 v n xs)
    (B : Nat) (A : Option Addr) (m c : Nat) (news : List Value) (hx : a.eval x = .slice A m c) (hr : Sv w B A news) (hm : news.length = m) (h1 : ∀ u ∈ news, u.oneCell' = true)
    (h63 : n + m ≤ maxLen) (hbytes : (n + m) * bytes ≤ 140737488355328) (hbase : base ≤ w.heap.size)
    (h : ∀ v' w', w'.ownsRow base e 1 v' (n + m) (xs ++ news) → w.grownBy w' v.ownBlock → (v'.ownBlock = v.ownBlock ∨ v'.ownBlock = some w.heap.size) → K (a.put o.dst v') w') :
    if Region.wanted o (yielded ops a.tmps) = true then Oper.wp P o a w K Q else E := by
  have hw : Region.wanted o (yielded ops a.tmps) = true := by simp [Region.wanted, hgd]
  rw [if_pos hw]
  obtain ⟨v', w', hrun, h2, h3, h4⟩ := run_append_sv (P := P) w base t o.type e i z bytes ht hi hz hsize hby hzs v n xs hown B A m c news hr hm h1 h63 hbytes hbase
  unfold Oper.wp execOp
  simp only [ho, resolve, invoke, builtin, Sem.run_bind, Sem.run_pure, Result.andThen_ok, List.map_toArray, List.map_cons, List.map_nil, hs, hx, hrun]
  exact h v' w' h2 h3 h4

/-- A row of the call's own that is not empty. -/
theorem own_at {w : World} {base : Nat} {e : TypeId} {v : Value} {n : Nat} {xs : List Value} (h : w.ownsRow base e 1 v n xs) (hn : 0 < n) :
    ∃ g cap, v = .slice (some ⟨g, 0, none⟩) n cap ∧ base ≤ g ∧ g < w.heap.size ∧ n ≤ cap ∧ cap ≤ maxLen ∧ ∀ j u, xs[j]? = some u → w.cell? ⟨g, j, none⟩ = some u := by
  obtain ⟨g, cap, rfl, hb, hg⟩ := h.form hn
  have h2 := own_form h
  obtain ⟨A, c, e2, h3, h4⟩ := h2
  simp only [Value.slice.injEq] at e2
  obtain ⟨rfl, _, rfl⟩ := e2
  refine ⟨g, cap, rfl, hb, hg, h3, h4, fun j u hu => ?_⟩
  have := h.cells (g := g) rfl j u hu
  rw [Addr.add_lit, Nat.zero_add] at this
  exact this
theorem sl_own {w : World} {base g cap n : Nat} {e : TypeId} {xs : List Value} (h : w.ownsRow base e 1 (.slice (some ⟨g, 0, none⟩) n cap) n xs) : Sv w w.heap.size (some ⟨g, 0, none⟩) xs := Sv.of_own h

set_option maxRecDepth 100000 in
set_option maxHeartbeats 800000 in
theorem cols_any (key : List UInt8) (Ab Ak : Option Addr) (cb ck B : Nat) (w : World) (hB : B ≤ w.heap.size) (hk : key.length = 16) (hsb : Sl w B Ab oT) (hsk : Sl w B Ak key) :
    Calls Tryd.prog 76 #[.slice Ab 256 cb, .slice Ak 16 ck] w (GaveO w (clN key 40)) := by
  obtain ⟨i0, hi0, hz0, hz1, hz2⟩ := info_parts info8A
  obtain ⟨bb, bo, rfl, hbB, hbc⟩ := Sl.at_ hsb (by rw [oT_len]; omega)
  have HBC := Deep.mk hbc
  have HK := Deep.mk hk
  have HSK := Lib.hid hsk
  clear hsb hsk hbc hk
  go_enter Tryd.func76, Tryd.ntmps76
  go_upto_region 2 with (first
    | (at_builtin; refine wpList_append_sv _ rfl (.tmp 10) (.tmp 11) _ rfl w.heap.size 5 i0 _ 1 Tryd.underlying23 hi0 hz0 hz1 hz2 rfl (.slice (some ⟨w.heap.size, 0, none⟩) 0 0) 0 [] rfl (World.ownsRow_made w #[] 0 (Nat.le_refl _) (Nat.zero_le _) rfl) B Ak 16 ck (key.map cell8) rfl (HSK.out.keep (Nat.le_refl _) (fun p hp => ((Below.refl w.heap.size w).alloc (Nat.le_refl _) _).cell (Nat.lt_of_lt_of_le hp hB))) (by rw [List.length_map, HK.out]) (cell8_one _) (by unfold maxLen; omega) (by omega) (by simp) ?_; intro v1 w1 hown1 hg1 _; have HO1 := Lib.hid hown1; have HB1 := Lib.hid (((Below.refl w.heap.size w).alloc (Nat.le_refl _) _).grown hg1 (by simp) (fun q hq => by simp [Value.ownBlock] at hq; omega)); clear hown1 hg1))
  rw [Nat.zero_add, List.nil_append] at HO1
  go_wp2
  go_loopw [5, 6, 7, 8, 9] (fun v vc vi _ _ wr => ∃ (n : Nat) (c : UInt8), n ≤ 40 ∧ vi = .int .i64 ((n + 4 : Nat) : Int) ∧ Deep (c = cN ((n + 3) / 4)) ∧ vc = .int .u8 (c.toNat : Int) ∧ Hid (wr.ownsRow w.heap.size 5 1 v (4 * n + 16) ((clN key n).map cell8)) ∧ Hid (Below w.heap.size w wr)) (fun _ _ vi _ _ _ => 44 - (intOf vi).toNat)
  case atStart => exact ⟨0, 1, by omega, rfl, ⟨rfl⟩, rfl, HO1, HB1⟩
  case round =>
    obtain ⟨n, c, hn, rfl, HC, rfl, HO, HB⟩ := hrel
    clear HO1 HB1
    obtain ⟨i, hi⟩ : ∃ i, i = n + 4 := ⟨_, rfl⟩
    rw [← hi]
    obtain ⟨L, hL⟩ : ∃ L, L = clN key n := ⟨_, rfl⟩
    rw [← hL] at HO
    have hLl : L.length = 4 * n + 16 := by rw [hL]; exact clN_len HK.out n
    have HL := Deep.mk hL
    have HLL := Deep.mk hLl
    clear hL hLl
    obtain ⟨m, hm⟩ : ∃ m, m = 4 * n + 16 := ⟨_, rfl⟩
    rw [← hm] at HO HLL
    obtain ⟨g, cap, rfl, hwg, hgl, hcm, hcx, hgc⟩ := own_at HO.out (by omega)
    have HGC := Deep.mk hgc
    unfold maxLen at hcx
    clear hgc
    by_cases hlt : n < 40
    · have hi44 : i < 44 := by omega
      have hi4 : 4 ≤ i := by omega
      have hmi : 4 * (i : Int) = (m : Int) := by omega
      have hm1 : m ≤ 176 := by omega
      have hm2 : 16 ≤ m := by omega
      obtain ⟨p, hp⟩ : ∃ p, p = m - 4 := ⟨_, rfl⟩
      have hq4 : (m : Int) - 4 = (p : Int) := by omega
      have hmp : m - p = 4 := by omega
      have hpm : p ≤ m := by omega
      have hne : ¬ cap = p := by omega
      have hsz := HB.out.size
      have hLs : Sv wr wr.heap.size (some ⟨g, 0, none⟩) (L.map cell8) := Sv.of_own HO.out
      obtain ⟨t0, ht0⟩ : ∃ t0, t0 = (L.drop p).take 4 := ⟨_, rfl⟩
      have ht04 : t0.length = 4 := by rw [ht0, List.length_take, List.length_drop, HLL.out]; omega
      have hts : Sv wr wr.heap.size (some ⟨g, p, none⟩) (t0.map cell8) := by
        have h := (hLs.drop p).take 4
        rw [Nat.zero_add, ← List.map_drop, ← List.map_take, ← ht0] at h
        exact h
      have HTS := Deep.mk hts
      have HT04 := Deep.mk ht04
      have HT0 := Deep.mk ht0
      have HP := Deep.mk hp
      have HM := Deep.mk hm
      have HI := Deep.mk hi
      clear hLs hts ht04 ht0 hp hm hi
      go_upto_if 28 with (first
        | (at_builtin; refine wpList_append_sv _ rfl (.tmp 17) (.tmp 24) _ rfl wr.heap.size 5 i0 _ 1 Tryd.underlying23 hi0 hz0 hz1 hz2 rfl (.slice (some ⟨wr.heap.size, 0, none⟩) 0 0) 0 [] rfl (World.ownsRow_made wr #[] 0 (Nat.le_refl _) (Nat.zero_le _) rfl) wr.heap.size _ 4 _ (t0.map cell8) rfl (HTS.out.keep (Nat.le_refl _) (fun p hp => ((Below.refl wr.heap.size wr).alloc (Nat.le_refl _) _).cell hp)) (by rw [List.length_map, HT04.out]) (cell8_one _) (by unfold maxLen; omega) (by omega) (by simp) ?_; intro v2 w2 hown2 hg2 _; have HO2 := Lib.hid hown2; have HB2 := Lib.hid (((Below.refl wr.heap.size wr).alloc (Nat.le_refl _) _).grown hg2 (by simp) (fun q hq => by simp [Value.ownBlock] at hq; omega)); clear hown2 hg2))
      rw [Nat.zero_add, List.nil_append] at HO2
      obtain ⟨tb, tc, rfl, htb, htl, htc, htx, htcell⟩ := own_at HO2.out (by omega)
      unfold maxLen at htx
      have HTC := Deep.mk htcell
      have HST := Lib.hid (show Sl w2 w2.heap.size (some ⟨tb, 0, none⟩) t0 from Sv.of_own HO2.out)
      clear htcell HO2
      go_cut [6, 8] (fun vc v8 wx => ∃ (d : UInt8) (ub uc : Nat), vc = .int .u8 (d.toNat : Int) ∧ Deep (d = cN ((n + 1 + 3) / 4)) ∧ v8 = .slice (some ⟨ub, 0, none⟩) 4 uc ∧ 4 ≤ uc ∧ uc ≤ 9223372036854775807 ∧ wr.heap.size ≤ ub ∧ Hid (Sl wx wx.heap.size (some ⟨ub, 0, none⟩) (tC t0 c (n % 4 == 0))) ∧ Hid (Below wr.heap.size wr wx))
      case first =>
        by_cases hz : n % 4 = 0
        · have h4 : ((i : Int) % 4 == 0) = true := by have := HI.out; simp; omega
          have HN := Deep.mk hz
          obtain ⟨q0, q1, q2, q3, e0⟩ : ∃ q0 q1 q2 q3, t0 = [q0, q1, q2, q3] := by
            have h := HT04.out
            match t0, h with
            | [q0, q1, q2, q3], _ => exact ⟨q0, q1, q2, q3, rfl⟩
          have ct0 : w2.cell? ⟨tb, 0, none⟩ = some (.int .u8 (q0.toNat : Int)) := HTC.out 0 _ (by rw [e0]; rfl)
          have ct1 : w2.cell? ⟨tb, 1, none⟩ = some (.int .u8 (q1.toNat : Int)) := HTC.out 1 _ (by rw [e0]; rfl)
          have ct2 : w2.cell? ⟨tb, 2, none⟩ = some (.int .u8 (q2.toNat : Int)) := HTC.out 2 _ (by rw [e0]; rfl)
          have ct3 : w2.cell? ⟨tb, 3, none⟩ = some (.int .u8 (q3.toNat : Int)) := HTC.out 3 _ (by rw [e0]; rfl)
          have hbel : Below w.heap.size w w2 := HB.out.trans (HB2.out.mono HB.out.size)
          have hbbw : bb < w2.heap.size := by have := hbel.size; omega
          have hcb : ∀ x : UInt8, w2.cell? ⟨bb, bo + x.toNat, none⟩ = some (.int .u8 ((sB x).toNat : Int)) := fun x => by
            rw [hbel.cell (p := ⟨bb, bo + x.toNat, none⟩) (by show bb < w.heap.size; omega)]
            refine HBC.out x.toNat (sB x) ?_
            have h2 : x.toNat < oT.length := by rw [oT_len]; exact x.toNat_lt
            simp [sB, List.getD, h2]
          obtain ⟨d, hd⟩ : ∃ d, d = tw c := ⟨_, rfl⟩
          have hti := fun w' => times_any c 2 w'
          rw [tm_2', ← hd] at hti
          have HTI := Lib.hid hti
          have HD : Deep (d = cN ((n + 1 + 3) / 4)) := ⟨by rw [hd, HC.out, cC_yes HN.out]⟩
          have HTT : Deep (tC t0 c (n % 4 == 0) = [sB q1 ^^^ c, sB q2, sB q3, sB q0]) := ⟨by rw [tC, HN.out, e0]; rfl⟩
          have hq0 := q0.toNat_lt
          have hq1 := q1.toNat_lt
          have hq2 := q2.toNat_lt
          have hq3 := q3.toNat_lt
          obtain ⟨y1, hy1⟩ : ∃ y, y = sB q1 ^^^ c := ⟨_, rfl⟩
          have HY : Deep (bits .xor .u8 ((sB q1).toNat : Int) (c.toNat : Int) = (y1.toNat : Int)) := ⟨by rw [b_xor, hy1]⟩
          rw [← hy1] at HTT
          clear hti hd hz e0 hy1
          go_wp2_with fail
          refine wp_region_held_drew (S := fun w' => SinceA w2.drew w') (by kernel_rfl) (SinceA.self _) (fun _ => ?_)
          have cd0 : w2.drew.cell? ⟨tb, 0, none⟩ = some (.int .u8 (q0.toNat : Int)) := ct0
          have cd1 : w2.drew.cell? ⟨tb, 1, none⟩ = some (.int .u8 (q1.toNat : Int)) := ct1
          have cd2 : w2.drew.cell? ⟨tb, 2, none⟩ = some (.int .u8 (q2.toNat : Int)) := ct2
          have cd3 : w2.drew.cell? ⟨tb, 3, none⟩ = some (.int .u8 (q3.toNat : Int)) := ct3
          have cdb : ∀ x : UInt8, w2.drew.cell? ⟨bb, bo + x.toNat, none⟩ = some (.int .u8 ((sB x).toNat : Int)) := hcb
          have hb0 : Below wr.heap.size wr w2.drew := HB2.out.drew
          have htl0 : tb < w2.drew.heap.size := htl
          have hbl0 : bb < w2.drew.heap.size := hbbw
          clear ct0 ct1 ct2 ct3 hcb
          generalize w2.drew = w0 at *
          refine wpAnyH_take (i := 0) (v := .slice (some ⟨bb, bo, none⟩) 256 cb) (List.getElem?_toArray.trans rfl) (by kernel_rfl) (by kernel_rfl) (by kernel_rfl) (fun _ _ _ h => h) (.inl ⟨rfl, fun w' hS => rfl⟩) (SinceA.self _) ?_
          refine act_normA (by simp only [Act.put, List.setIfInBounds_toArray, List.set_cons_zero, List.set_cons_succ]; rfl) ?_
          refine wpAnyH_take (i := 1) (v := .slice (some ⟨tb, 0, none⟩) 4 tc) (List.getElem?_toArray.trans rfl) (by kernel_rfl) (by kernel_rfl) (by kernel_rfl) (fun _ _ _ h => h) (.inl ⟨rfl, fun w' hS => rfl⟩) (SinceA.self _) ?_
          refine act_normA (by simp only [Act.put, List.setIfInBounds_toArray, List.set_cons_zero, List.set_cons_succ]; rfl) ?_
          refine wpAnyH_take (i := 2) (v := .pointer (some ⟨tb, 1, none⟩)) (List.getElem?_toArray.trans rfl) (by kernel_rfl) (by kernel_rfl) (by kernel_rfl) (fun _ _ _ h => h) (.inl ⟨rfl, fun w' hS => by simp [go_sem]⟩) (SinceA.self _) ?_
          refine act_normA (by simp only [Act.put, List.setIfInBounds_toArray, List.set_cons_zero, List.set_cons_succ]; rfl) ?_
          refine wpAnyH_take (i := 3) (v := .int .u8 (q1.toNat : Int)) (List.getElem?_toArray.trans rfl) (by kernel_rfl) (by kernel_rfl) (by kernel_rfl) (fun _ _ _ h => h) (.inl ⟨rfl, fun w' hS => by have hc := (Below.cell (hS : Below w0.heap.size w0 w') (p := ⟨tb, 1, none⟩) htl0).trans (cd1); simp [go_sem, hc]⟩) (SinceA.self _) ?_
          refine act_normA (by simp only [Act.put, List.setIfInBounds_toArray, List.set_cons_zero, List.set_cons_succ]; rfl) ?_
          refine wpAnyH_take (i := 4) (v := .pointer (some ⟨bb, bo + q1.toNat, none⟩)) (List.getElem?_toArray.trans rfl) (by kernel_rfl) (by kernel_rfl) (by kernel_rfl) (fun _ _ _ h => h) (.inl ⟨rfl, fun w' hS => by simp [go_sem]; exact fun h => absurd h (by omega)⟩) (SinceA.self _) ?_
          refine act_normA (by simp only [Act.put, List.setIfInBounds_toArray, List.set_cons_zero, List.set_cons_succ]; rfl) ?_
          refine wpAnyH_take (i := 5) (v := .int .u8 ((sB q1).toNat : Int)) (List.getElem?_toArray.trans rfl) (by kernel_rfl) (by kernel_rfl) (by kernel_rfl) (fun _ _ _ h => h) (.inl ⟨rfl, fun w' hS => by have hc := (Below.cell (hS : Below w0.heap.size w0 w') (p := ⟨bb, bo + q1.toNat, none⟩) hbl0).trans (cdb q1); simp [go_sem, hc]⟩) (SinceA.self _) ?_
          refine act_normA (by simp only [Act.put, List.setIfInBounds_toArray, List.set_cons_zero, List.set_cons_succ]; rfl) ?_
          refine wpAnyH_take (i := 6) (v := .int .u8 (c.toNat : Int)) (List.getElem?_toArray.trans rfl) (by kernel_rfl) (by kernel_rfl) (by kernel_rfl) (fun _ _ _ h => h) (.inl ⟨rfl, fun w' hS => rfl⟩) (SinceA.self _) ?_
          refine act_normA (by simp only [Act.put, List.setIfInBounds_toArray, List.set_cons_zero, List.set_cons_succ]; rfl) ?_
          refine wpAnyH_take (i := 7) (v := .int .u8 (y1.toNat : Int)) (List.getElem?_toArray.trans rfl) (by kernel_rfl) (by kernel_rfl) (by kernel_rfl) (fun _ _ _ h => h) (.inl ⟨rfl, fun w' hS => by simp [go_sem, HY.out]⟩) (SinceA.self _) ?_
          refine act_normA (by simp only [Act.put, List.setIfInBounds_toArray, List.set_cons_zero, List.set_cons_succ]; rfl) ?_
          refine wpAnyH_take (i := 8) (v := .slice (some ⟨bb, bo, none⟩) 256 cb) (List.getElem?_toArray.trans rfl) (by kernel_rfl) (by kernel_rfl) (by kernel_rfl) (fun _ _ _ h => h) (.inl ⟨rfl, fun w' hS => rfl⟩) (SinceA.self _) ?_
          refine act_normA (by simp only [Act.put, List.setIfInBounds_toArray, List.set_cons_zero, List.set_cons_succ]; rfl) ?_
          refine wpAnyH_take (i := 9) (v := .slice (some ⟨tb, 0, none⟩) 4 tc) (List.getElem?_toArray.trans rfl) (by kernel_rfl) (by kernel_rfl) (by kernel_rfl) (fun _ _ _ h => h) (.inl ⟨rfl, fun w' hS => rfl⟩) (SinceA.self _) ?_
          refine act_normA (by simp only [Act.put, List.setIfInBounds_toArray, List.set_cons_zero, List.set_cons_succ]; rfl) ?_
          refine wpAnyH_take (i := 10) (v := .pointer (some ⟨tb, 2, none⟩)) (List.getElem?_toArray.trans rfl) (by kernel_rfl) (by kernel_rfl) (by kernel_rfl) (fun _ _ _ h => h) (.inl ⟨rfl, fun w' hS => by simp [go_sem]⟩) (SinceA.self _) ?_
          refine act_normA (by simp only [Act.put, List.setIfInBounds_toArray, List.set_cons_zero, List.set_cons_succ]; rfl) ?_
          refine wpAnyH_take (i := 11) (v := .int .u8 (q2.toNat : Int)) (List.getElem?_toArray.trans rfl) (by kernel_rfl) (by kernel_rfl) (by kernel_rfl) (fun _ _ _ h => h) (.inl ⟨rfl, fun w' hS => by have hc := (Below.cell (hS : Below w0.heap.size w0 w') (p := ⟨tb, 2, none⟩) htl0).trans (cd2); simp [go_sem, hc]⟩) (SinceA.self _) ?_
          refine act_normA (by simp only [Act.put, List.setIfInBounds_toArray, List.set_cons_zero, List.set_cons_succ]; rfl) ?_
          refine wpAnyH_take (i := 12) (v := .pointer (some ⟨bb, bo + q2.toNat, none⟩)) (List.getElem?_toArray.trans rfl) (by kernel_rfl) (by kernel_rfl) (by kernel_rfl) (fun _ _ _ h => h) (.inl ⟨rfl, fun w' hS => by simp [go_sem]; exact fun h => absurd h (by omega)⟩) (SinceA.self _) ?_
          refine act_normA (by simp only [Act.put, List.setIfInBounds_toArray, List.set_cons_zero, List.set_cons_succ]; rfl) ?_
          refine wpAnyH_take (i := 13) (v := .int .u8 ((sB q2).toNat : Int)) (List.getElem?_toArray.trans rfl) (by kernel_rfl) (by kernel_rfl) (by kernel_rfl) (fun _ _ _ h => h) (.inl ⟨rfl, fun w' hS => by have hc := (Below.cell (hS : Below w0.heap.size w0 w') (p := ⟨bb, bo + q2.toNat, none⟩) hbl0).trans (cdb q2); simp [go_sem, hc]⟩) (SinceA.self _) ?_
          refine act_normA (by simp only [Act.put, List.setIfInBounds_toArray, List.set_cons_zero, List.set_cons_succ]; rfl) ?_
          refine wpAnyH_take (i := 14) (v := .slice (some ⟨bb, bo, none⟩) 256 cb) (List.getElem?_toArray.trans rfl) (by kernel_rfl) (by kernel_rfl) (by kernel_rfl) (fun _ _ _ h => h) (.inl ⟨rfl, fun w' hS => rfl⟩) (SinceA.self _) ?_
          refine act_normA (by simp only [Act.put, List.setIfInBounds_toArray, List.set_cons_zero, List.set_cons_succ]; rfl) ?_
          refine wpAnyH_take (i := 15) (v := .slice (some ⟨tb, 0, none⟩) 4 tc) (List.getElem?_toArray.trans rfl) (by kernel_rfl) (by kernel_rfl) (by kernel_rfl) (fun _ _ _ h => h) (.inl ⟨rfl, fun w' hS => rfl⟩) (SinceA.self _) ?_
          refine act_normA (by simp only [Act.put, List.setIfInBounds_toArray, List.set_cons_zero, List.set_cons_succ]; rfl) ?_
          refine wpAnyH_take (i := 16) (v := .pointer (some ⟨tb, 3, none⟩)) (List.getElem?_toArray.trans rfl) (by kernel_rfl) (by kernel_rfl) (by kernel_rfl) (fun _ _ _ h => h) (.inl ⟨rfl, fun w' hS => by simp [go_sem]⟩) (SinceA.self _) ?_
          refine act_normA (by simp only [Act.put, List.setIfInBounds_toArray, List.set_cons_zero, List.set_cons_succ]; rfl) ?_
          refine wpAnyH_take (i := 17) (v := .int .u8 (q3.toNat : Int)) (List.getElem?_toArray.trans rfl) (by kernel_rfl) (by kernel_rfl) (by kernel_rfl) (fun _ _ _ h => h) (.inl ⟨rfl, fun w' hS => by have hc := (Below.cell (hS : Below w0.heap.size w0 w') (p := ⟨tb, 3, none⟩) htl0).trans (cd3); simp [go_sem, hc]⟩) (SinceA.self _) ?_
          refine act_normA (by simp only [Act.put, List.setIfInBounds_toArray, List.set_cons_zero, List.set_cons_succ]; rfl) ?_
          refine wpAnyH_take (i := 18) (v := .pointer (some ⟨bb, bo + q3.toNat, none⟩)) (List.getElem?_toArray.trans rfl) (by kernel_rfl) (by kernel_rfl) (by kernel_rfl) (fun _ _ _ h => h) (.inl ⟨rfl, fun w' hS => by simp [go_sem]; exact fun h => absurd h (by omega)⟩) (SinceA.self _) ?_
          refine act_normA (by simp only [Act.put, List.setIfInBounds_toArray, List.set_cons_zero, List.set_cons_succ]; rfl) ?_
          refine wpAnyH_take (i := 19) (v := .int .u8 ((sB q3).toNat : Int)) (List.getElem?_toArray.trans rfl) (by kernel_rfl) (by kernel_rfl) (by kernel_rfl) (fun _ _ _ h => h) (.inl ⟨rfl, fun w' hS => by have hc := (Below.cell (hS : Below w0.heap.size w0 w') (p := ⟨bb, bo + q3.toNat, none⟩) hbl0).trans (cdb q3); simp [go_sem, hc]⟩) (SinceA.self _) ?_
          refine act_normA (by simp only [Act.put, List.setIfInBounds_toArray, List.set_cons_zero, List.set_cons_succ]; rfl) ?_
          refine wpAnyH_take (i := 20) (v := .slice (some ⟨bb, bo, none⟩) 256 cb) (List.getElem?_toArray.trans rfl) (by kernel_rfl) (by kernel_rfl) (by kernel_rfl) (fun _ _ _ h => h) (.inl ⟨rfl, fun w' hS => rfl⟩) (SinceA.self _) ?_
          refine act_normA (by simp only [Act.put, List.setIfInBounds_toArray, List.set_cons_zero, List.set_cons_succ]; rfl) ?_
          refine wpAnyH_take (i := 21) (v := .slice (some ⟨tb, 0, none⟩) 4 tc) (List.getElem?_toArray.trans rfl) (by kernel_rfl) (by kernel_rfl) (by kernel_rfl) (fun _ _ _ h => h) (.inl ⟨rfl, fun w' hS => rfl⟩) (SinceA.self _) ?_
          refine act_normA (by simp only [Act.put, List.setIfInBounds_toArray, List.set_cons_zero, List.set_cons_succ]; rfl) ?_
          refine wpAnyH_take (i := 22) (v := .pointer (some ⟨tb, 0, none⟩)) (List.getElem?_toArray.trans rfl) (by kernel_rfl) (by kernel_rfl) (by kernel_rfl) (fun _ _ _ h => h) (.inl ⟨rfl, fun w' hS => by simp [go_sem]⟩) (SinceA.self _) ?_
          refine act_normA (by simp only [Act.put, List.setIfInBounds_toArray, List.set_cons_zero, List.set_cons_succ]; rfl) ?_
          refine wpAnyH_take (i := 23) (v := .int .u8 (q0.toNat : Int)) (List.getElem?_toArray.trans rfl) (by kernel_rfl) (by kernel_rfl) (by kernel_rfl) (fun _ _ _ h => h) (.inl ⟨rfl, fun w' hS => by have hc := (Below.cell (hS : Below w0.heap.size w0 w') (p := ⟨tb, 0, none⟩) htl0).trans (cd0); simp [go_sem, hc]⟩) (SinceA.self _) ?_
          refine act_normA (by simp only [Act.put, List.setIfInBounds_toArray, List.set_cons_zero, List.set_cons_succ]; rfl) ?_
          refine wpAnyH_take (i := 24) (v := .pointer (some ⟨bb, bo + q0.toNat, none⟩)) (List.getElem?_toArray.trans rfl) (by kernel_rfl) (by kernel_rfl) (by kernel_rfl) (fun _ _ _ h => h) (.inl ⟨rfl, fun w' hS => by simp [go_sem]; exact fun h => absurd h (by omega)⟩) (SinceA.self _) ?_
          refine act_normA (by simp only [Act.put, List.setIfInBounds_toArray, List.set_cons_zero, List.set_cons_succ]; rfl) ?_
          refine wpAnyH_take (i := 25) (v := .int .u8 ((sB q0).toNat : Int)) (List.getElem?_toArray.trans rfl) (by kernel_rfl) (by kernel_rfl) (by kernel_rfl) (fun _ _ _ h => h) (.inl ⟨rfl, fun w' hS => by have hc := (Below.cell (hS : Below w0.heap.size w0 w') (p := ⟨bb, bo + q0.toNat, none⟩) hbl0).trans (cdb q0); simp [go_sem, hc]⟩) (SinceA.self _) ?_
          refine act_normA (by simp only [Act.put, List.setIfInBounds_toArray, List.set_cons_zero, List.set_cons_succ]; rfl) ?_
          refine wpAnyH_ready (rs := [26]) (by kernel_rfl) (by simp) (AllReadyH.cons (List.getElem?_toArray.trans rfl) (fun K' hK => ?_) AllReadyH.nil)
          refine wanted_goA rfl ?_
          go_simp
          obtain ⟨T, hT⟩ : ∃ T, T = [y1, sB q2, sB q3, sB q0] := ⟨_, rfl⟩
          have hTl : T.length = 4 := by rw [hT]; rfl
          have hTe : #[Value.int .u8 (y1.toNat : Int), .int .u8 ((sB q2).toNat : Int), .int .u8 ((sB q3).toNat : Int), .int .u8 ((sB q0).toNat : Int)] = aRow T := by rw [hT]; rfl
          rw [hTe]
          rw [← hT] at HTT
          have hb3 : SinceA w0 (w0.alloc (.cells (aRow T) 5)) := (Below.refl _ _).alloc (Nat.le_refl _) _
          have hx3 : Wh (w0.alloc (.cells (aRow T) 5)) w0.heap.size 5 (aRow T) := Wh.new _ _ _
          obtain ⟨nb, hnb⟩ : ∃ nb, nb = w0.heap.size := ⟨_, rfl⟩
          rw [← hnb] at hx3 ⊢
          have hwn : wr.heap.size ≤ nb := by rw [hnb]; exact hb0.size
          generalize w0.alloc (.cells (aRow T) 5) = w3 at *
          clear hnb
          refine hK.out _ _ hb3 (fun _ => ?_)
          clear hK K'
          refine wpAnyH_ready (rs := [27]) (by kernel_rfl) (by simp) (AllReadyH.cons (List.getElem?_toArray.trans rfl) (fun K' hK => ?_) AllReadyH.nil)
          refine wanted_goA rfl ?_
          go_simp
          refine hK.out _ _ hb3 (fun _ => ?_)
          clear hK K'
          refine wpAnyH_done (by kernel_rfl) ?_ _
          have HB3 := Lib.hid (hb0.trans (hb3.mono hb0.size))
          have HX3 := Lib.hid hx3
          have HNB := Lib.hid hwn
          clear hb3 hx3 hwn hb0 cd0 cd1 cd2 cd3 cdb hTe hT htl0 hbl0 hTl
          go_wp2_with (go_at_call 114; refine (HTI.out _).mono ?_; rintro e w4 ⟨rfl, rfl⟩)
          go_meet
          refine ⟨d, nb, 4, rfl, HD, rfl, Nat.le_refl _, by omega, HNB.out, ?_, HB3⟩
          rw [HTT.out]
          exact Lib.hid (sl_of_whA HX3.out)
        · have h4n : (i : Int) % 4 ≠ 0 := by have := HI.out; omega
          have h4 : ((i : Int) % 4 == 0) = false := by simpa using h4n
          have HD : Deep (c = cN ((n + 1 + 3) / 4)) := ⟨by rw [← cC_no hz]; exact HC.out⟩
          have HTT : Deep (tC t0 c (n % 4 == 0) = t0) := ⟨by simp [tC, hz]⟩
          clear hz h4n
          go_wp2
          go_meet
          refine ⟨c, tb, tc, rfl, HD, rfl, htc, htx, htb, ?_, HB2⟩
          rw [HTT.out]
          exact HST
      case rest =>
        obtain ⟨d, ub, uc, rfl, HD, rfl, huc, hux, hub, HU, HBU⟩ := hcut
        obtain ⟨T, hT⟩ : ∃ T, T = tC t0 c (n % 4 == 0) := ⟨_, rfl⟩
        rw [← hT] at HU
        have hTl : T.length = 4 := by rw [hT, tC]; split; rfl; exact HT04.out
        obtain ⟨ub', uo', e9, hublt, hucell⟩ := Sl.at_ HU.out (by omega)
        simp only [Option.some.injEq, Addr.mk.injEq, and_true] at e9
        obtain ⟨rfl, rfl⟩ := e9
        have hcl1 : clN key (n + 1) = L ++ inC L (4 * n) T 4 := by
          rw [clN, ← HL.out, hT, HT0.out, HC.out, show p = 4 * n + 12 by have := HP.out; have := HM.out; omega]
        have HCL1 := Deep.mk hcl1
        have HOc := Lib.hid (own_below HO.out HBU.out)
        have HBc := Lib.hid (HB.out.trans (HBU.out.mono HB.out.size))
        have hgu : g ≠ ub := by omega
        have HTL := Deep.mk hTl
        have HUC := Deep.mk hucell
        have hzc := HBU.out.size
        clear hT hTl hucell hcl1 HO HU HBU
        generalize wc = w5 at *
        go_wp2
        go_loopw [5, 9] (fun v vj wx => ∃ (j ln : Nat), j ≤ 4 ∧ Deep (ln = m + j) ∧ vj = .int .i64 (j : Int) ∧ Hid (wx.ownsRow w.heap.size 5 1 v ln ((L ++ inC L (4 * n) T j).map cell8)) ∧ Hid (v.ownBlock ≠ some ub) ∧ Hid (wx.heap[ub]? = w5.heap[ub]?) ∧ w5.heap.size ≤ wx.heap.size ∧ Hid (Below w.heap.size w wx)) (fun _ vj _ => 4 - (intOf vj).toNat)
        case atStart => exact ⟨0, m, by omega, ⟨rfl⟩, rfl, Lib.hid (by simpa [inC] using HOc.out), Lib.hid (by intro e; exact hgu (Option.some.inj e)), Lib.hid rfl, Nat.le_refl _, HBc⟩
        case round =>
          obtain ⟨j, ln, hj, HLN, rfl, HOj, HNE, HBK, hzj, HBj⟩ := hrel
          clear HOc HBc
          have hlnm := HLN.out
          obtain ⟨g1, cap1, rfl, hwg1, hgl1, hcm1, hcx1, hgc1⟩ := own_at HOj.out (by omega)
          have hnu : g1 ≠ ub := fun e => HNE.out (by rw [e]; rfl)
          unfold maxLen at hcx1
          by_cases hjl : j < 4
          · obtain ⟨q, hq⟩ : ∃ q, q = 4 * n + j := ⟨_, rfl⟩
            have hqL : q < L.length := by rw [HLL.out]; have := HM.out; omega
            have kw : wr.cell? ⟨g1, q, none⟩ = some (.int .u8 ((L.getD q 0).toNat : Int)) := hgc1 q _ (by
              rw [List.getElem?_map, List.getElem?_append_left hqL]
              simp [List.getD, hqL, cell8])
            have ku : wr.cell? ⟨ub, j, none⟩ = some (.int .u8 ((T.getD j 0).toNat : Int)) := by
              have hjT : j < T.length := by rw [HTL.out]; exact hjl
              rw [World.cell?_of_block HBK.out]
              have := HUC.out j (T.getD j 0) (by simp [List.getD, hjT])
              rwa [Nat.zero_add] at this
            have hin : inC L (4 * n) T (j + 1) = inC L (4 * n) T j ++ [L.getD q 0 ^^^ T.getD j 0] := by rw [inC, hq]
            generalize L.getD q 0 = x at *
            generalize T.getD j 0 = y at *
            have HIN := Deep.mk hin
            have hown := HOj.out
            have hbz := HBj.out.size
            have hulw : ub < wr.heap.size := by omega
            obtain ⟨r, hr⟩ : ∃ r, r = 4 * n := ⟨_, rfl⟩
            have e1 : IntKind.i64.wrap (4 * (i : Int)) = (m : Int) := by rw [hmi]; exact IntWalk.i64_in _ (by omega)
            have e2 : IntKind.i64.wrap ((m : Int) - 16) = (r : Int) := by
              rw [show (m : Int) - 16 = (r : Int) by have := HM.out; omega]
              exact IntWalk.i64_in _ (by omega)
            have e3 : IntKind.i64.wrap ((r : Int) + (j : Int)) = (q : Int) := by
              rw [show (r : Int) + (j : Int) = (q : Int) by omega]
              exact IntWalk.i64_in _ (by omega)
            have hqln : (q : Int) < (ln : Int) := by rw [HLL.out] at hqL; omega
            have hj4 : (j : Int) < 4 := by omega
            have hx8 := x.toNat_lt
            have hy8 := y.toNat_lt
            have hln180 : ln ≤ 180 := by omega
            have HMI := Deep.mk hmi
            clear hin hq hr hqL hgc1 hlnm hmi hq4 hmp
            go_wp2_with fail
            go_region_law (first
              | (refine step_app_svA rfl (.tmp 62) (.tmp 76) 23 rfl w.heap.size 5 i0 _ 1 Tryd.underlying23 hi0 hz0 hz1 hz2 rfl (.slice (some ⟨g1, 0, none⟩) ln cap1) _ _ rfl (hown.alloc _) _ _ 1 1 _ rfl (sv_new _ _ _) rfl (fun u hu => by simp at hu; subst hu; rfl) (by unfold maxLen; omega) (by omega) (by simp; omega) ?_; intro v9 w9 hown9 hg9 hv9; have hb9 : Below w.heap.size w w9 := (HBj.out.alloc hbz _).drew.grown hg9 (by simp; omega) (fun q hq => (HOj.out.lt q hq).1); have hk9 : w9.heap[ub]? = wr.heap[ub]? := (hg9.block ub (by simp; omega) (fun e => hnu (Option.some.inj e).symm)).trans (Below.heap_alloc wr _ ub hulw); have hs9 : wr.heap.size ≤ w9.heap.size := Nat.le_trans (by simp) hg9.size; have hn9 : v9.ownBlock ≠ some ub := (by rcases hv9 with h | h; (rw [h]; exact fun e => hnu (Option.some.inj e)); (rw [h]; intro e; have h2 := Option.some.inj e; simp at h2; omega))))
            all_goals
              clear e1 e2 e3 hqln hj4 kw ku hv9 hg9
              rw [b_xor] at hown9
              have HO9 : Hid (w9.ownsRow w.heap.size 5 1 v9 (ln + 1) ((L ++ inC L (4 * n) T (j + 1)).map cell8)) := by
                rw [HIN.out, ← List.append_assoc, List.map_append]
                exact Lib.hid hown9
              have HB9 := Lib.hid hb9
              have HN9 := Lib.hid hn9
              have HK9 := Lib.hid (hk9.trans HBK.out)
              clear hown9 hb9 hn9 hk9 hown hbz HOj HBj HNE HBK
              go_wp2
              go_roundw
              case rel => exact ⟨j + 1, ln + 1, by omega, ⟨by rw [HLN.out, Nat.add_assoc]⟩, by go_num, HO9, HN9, HK9, by omega, HB9⟩
              case measure => simp [intOf]; omega
          · have hj4 : j = 4 := by omega
            have hjd : decide ((j : Int) < 4) = false := by rw [decide_eq_false_iff_not]; omega
            have HOF : Hid (wr.ownsRow w.heap.size 5 1 (.slice (some ⟨g1, 0, none⟩) ln cap1) (4 * (n + 1) + 16) ((clN key (n + 1)).map cell8)) := by
              have h := HOj.out
              rw [HCL1.out, show 4 * (n + 1) + 16 = ln by have := HM.out; omega]
              rw [hj4] at h
              exact Lib.hid h
            have hii : (i : Int) + 1 = ((n + 1 + 4 : Nat) : Int) := by have := HI.out; omega
            have HII := Deep.mk hii
            clear HOj HNE HBK hgc1 hlnm hjl hj4 hii hmi hq4 hmp
            go_wp2
            go_roundw
            case rel => exact ⟨n + 1, d, by omega, by rw [HII.out], HD, rfl, HOF, HBj⟩
            case measure => have := HI.out; simp [intOf]; omega
    · have hn40 : n = 40 := by omega
      have hid : decide ((i : Int) < 44) = false := by rw [decide_eq_false_iff_not]; omega
      obtain ⟨Z, hZ⟩ : ∃ Z, Z = clN key 40 := ⟨_, rfl⟩
      have hZl : Z.length = 176 := by rw [hZ, clN_len HK.out]
      have HOF : Hid (wr.ownsRow w.heap.size 5 1 (.slice (some ⟨g, 0, none⟩) 176 cap) 176 (Z.map cell8)) := by
        have h := HO.out
        rw [HL.out, hn40, ← hZ, show m = 176 by omega] at h
        exact Lib.hid h
      have hret : Ending.returned (.slice (some ⟨g, 0, none⟩) m cap) = Ending.returned (.slice (some ⟨g, 0, none⟩) 176 cap) := by rw [show m = 176 by omega]
      have hc176 : 176 ≤ cap := by omega
      have HR := Deep.mk hret
      have HZ := Deep.mk hZ
      have HZL := Deep.mk hZl
      clear HO HC HL HGC hlt hn hn40 hm hi hret hZ hZl
      go_wp2
      go_ret
      rw [← HZ.out]
      exact ⟨some ⟨g, 0, none⟩, cap, by rw [HZL.out]; exact HR.out, by rw [HZL.out]; exact hc176, (by unfold maxLen; exact hcx), by rw [HZL.out]; exact HOF.out, HB.out⟩
end Go.Proofs.YtblclinfcdalaaaDoor
