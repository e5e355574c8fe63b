/-
  gcm.hash.take: a block taken in. Printed by tools/gen_gctake.py.
  copy into a block that is known whole, wherever it lies: what lies above it stays. No program is named here.
  gcm.hash.add: bytes taken in, sixteen at a time.
  gcm's hash in memory: words.
-/
import Derived.Test.YtbnnjkjmadnjkaaDoorSk35
import Derived.Laws.CopyOwn
import Derived.Test.YtbnnjkjmadnjkaaDoorSk3
namespace Go.Proofs.YtbnnjkjmadnjkaaDoor
section
open Go.RowKit
set_option linter.unusedVariables false

/-- A hash in memory: its factor, its sum. -/
def hL (f s : W128) : List Value := pL f ++ pL s
def hRow (f s : W128) : Array Value := (hL f s).toArray
theorem hL_0 (f s : W128) : ∀ (j : Nat) (v : Value), (pL f)[j]? = some v → (hL f s)[0 + j]? = some v := fun j v h => by
  rw [Nat.zero_add, hL, List.getElem?_append_left (List.getElem?_eq_some_iff.1 h).1]
  exact h
theorem hL_2 (f s : W128) : ∀ (j : Nat) (v : Value), (pL s)[j]? = some v → (hL f s)[2 + j]? = some v := fun j v h => by
  rw [hL, List.getElem?_append_right (by rw [pL_len]; omega), pL_len, show 2 + j - 2 = j by omega]
  exact h
theorem hRow_f {w : World} {h : Nat} {t : TypeId} {f s : W128} (hw : Wh w h t (hRow f s)) : w.rangeAt h 0 (pL f) := Wh.part hw 0 (pL f) (hL_0 f s)
theorem hRow_s {w : World} {h : Nat} {t : TypeId} {f s : W128} (hw : Wh w h t (hRow f s)) : w.rangeAt h 2 (pL s) := Wh.part hw 2 (pL s) (hL_2 f s)
theorem hRow_put {w : World} {h : Nat} {t : TypeId} {f s u : W128} (hw : Wh w h t (hRow f s)) : Wh (w.setCells h 2 (pL u)) h t (hRow f u) ∧ w.grownBy (w.setCells h 2 (pL u)) (some h) := Wh.puts (pL u) 2 (hL f s) w hw (by simp [hL, pL])
theorem hRow_there {w : World} {h : Nat} {t : TypeId} {f s : W128} (hw : Wh w h t (hRow f s)) : w.there h 2 2 := Wh.thereL hw 2 2 (by simp [hL, pL])

set_option maxRecDepth 100000 in
set_option maxHeartbeats 400000 in
theorem hashtake_any (h : Nat) (f s u : W128) (w : World) (hh : Wh w h 114 (hRow f s)) :
    Calls Tryd.prog 61 #[.pointer (some ⟨h, 0, none⟩), .agg (pRow u)] w fun e w' => e = .returned (.tuple #[]) ∧ Wh w' h 114 (hRow f (tmG (s ^^^ u) f)) ∧ w.grownBy w' (some h) := by
  have hb1 := Wh.new w 111 (pRow u)
  have hh1 := hh.alloc (.cells (pRow u) 111)
  have hg1 : w.grownBy (w.alloc (.cells (pRow u) 111)) (some h) := grown_alloc (World.grownBy.refl w _) _
  have hlt := hh.lt
  go_enter Tryd.func61, Tryd.ntmps61
  go_wp2_with fail
  generalize w.alloc (.cells (pRow u) 111) = W at *
  obtain ⟨b, hb⟩ : ∃ b, b = w.heap.size := ⟨_, rfl⟩
  rw [← hb] at hb1 ⊢
  have hhb : h < b := by omega
  have HH := Lib.hid hh1
  have HB := Lib.hid hb1
  have HG := Lib.hid hg1
  clear hb hh hlt hh1 hb1 hg1
  have hG : W.drew.rangeAt h 0 (pL f) ∧ Wh W.drew b 111 (pRow u) := ⟨hRow_f (HH.out.below (Below.refl _ _).drew HH.out.lt), HB.out.below (Below.refl _ _).drew HB.out.lt⟩
  refine wp_region_held_drew (S := fun w' => w'.rangeAt h 0 (pL f) ∧ Wh w' b 111 (pRow u)) (by kernel_rfl) hG (fun _ => ?_)
  refine wpAnyH_take (i := 0) (v := .pointer (some ⟨h, 0, none⟩)) (List.getElem?_toArray.trans rfl) (by kernel_rfl) (by kernel_rfl) (by kernel_rfl) (fun _ _ _ h => h) (.inl ⟨rfl, fun w' hS => rfl⟩) hG ?_
  refine act_normM (by simp only [Act.put, List.setIfInBounds_toArray, List.set_cons_zero, List.set_cons_succ]; rfl) ?_
  refine wpAnyH_take (i := 1) (v := .pointer (some ⟨h, 0, none⟩)) (List.getElem?_toArray.trans rfl) (by kernel_rfl) (by kernel_rfl) (by kernel_rfl) (fun _ _ _ h => h) (.inl ⟨rfl, fun w' hS => rfl⟩) hG ?_
  refine act_normM (by simp only [Act.put, List.setIfInBounds_toArray, List.set_cons_zero, List.set_cons_succ]; rfl) ?_
  refine wpAnyH_take (i := 2) (v := .pointer (some ⟨h, 0, none⟩)) (List.getElem?_toArray.trans rfl) (by kernel_rfl) (by kernel_rfl) (by kernel_rfl) (fun _ _ _ h => h) (.inl ⟨rfl, fun w' hS => by simp [go_sem]⟩) hG ?_
  refine act_normM (by simp only [Act.put, List.setIfInBounds_toArray, List.set_cons_zero, List.set_cons_succ]; rfl) ?_
  refine wpAnyH_take (i := 3) (v := .pointer (some ⟨h, 2, none⟩)) (List.getElem?_toArray.trans rfl) (by kernel_rfl) (by kernel_rfl) (by kernel_rfl) (fun _ _ _ h => h) (.inl ⟨rfl, fun w' hS => by simp [go_sem]⟩) hG ?_
  refine act_normM (by simp only [Act.put, List.setIfInBounds_toArray, List.set_cons_zero, List.set_cons_succ]; rfl) ?_
  refine wpAnyH_take (i := 5) (v := .agg (pRow u)) (List.getElem?_toArray.trans rfl) (by kernel_rfl) (by kernel_rfl) (by kernel_rfl) (fun _ _ _ h => h) (yieldsIf_load_mid (by rfl) 111 (.tmp 3) rfl b 0 rfl (pL u) _ (fun w' hS => Wh.whole hS.2) Tryd.underlying111 rfl info_pol) hG ?_
  refine act_normM (by simp only [Act.put, List.setIfInBounds_toArray, List.set_cons_zero, List.set_cons_succ]; rfl) ?_
  refine wpAnyH_take (i := 7) (v := .pointer (some ⟨h, 0, none⟩)) (List.getElem?_toArray.trans rfl) (by kernel_rfl) (by kernel_rfl) (by kernel_rfl) (fun _ _ _ h => h) (.inl ⟨rfl, fun w' hS => rfl⟩) hG ?_
  refine act_normM (by simp only [Act.put, List.setIfInBounds_toArray, List.set_cons_zero, List.set_cons_succ]; rfl) ?_
  refine wpAnyH_take (i := 8) (v := .pointer (some ⟨h, 0, none⟩)) (List.getElem?_toArray.trans rfl) (by kernel_rfl) (by kernel_rfl) (by kernel_rfl) (fun _ _ _ h => h) (.inl ⟨rfl, fun w' hS => by simp [go_sem]⟩) hG ?_
  refine act_normM (by simp only [Act.put, List.setIfInBounds_toArray, List.set_cons_zero, List.set_cons_succ]; rfl) ?_
  refine wpAnyH_take (i := 9) (v := .pointer (some ⟨h, 0, none⟩)) (List.getElem?_toArray.trans rfl) (by kernel_rfl) (by kernel_rfl) (by kernel_rfl) (fun _ _ _ h => h) (.inl ⟨rfl, fun w' hS => by simp [go_sem]⟩) hG ?_
  refine act_normM (by simp only [Act.put, List.setIfInBounds_toArray, List.set_cons_zero, List.set_cons_succ]; rfl) ?_
  refine wpAnyH_take (i := 10) (v := .agg (pRow f)) (List.getElem?_toArray.trans rfl) (by kernel_rfl) (by kernel_rfl) (by kernel_rfl) (fun _ _ _ h => h) (yieldsIf_load_mid (by rfl) 111 (.tmp 13) rfl h 0 rfl (pL f) _ (fun w' hS => hS.1) Tryd.underlying111 rfl info_pol) hG ?_
  refine act_normM (by simp only [Act.put, List.setIfInBounds_toArray, List.set_cons_zero, List.set_cons_succ]; rfl) ?_
  refine wpAnyH_ready (rs := [4]) (by kernel_rfl) (by simp) (AllReadyH.cons (List.getElem?_toArray.trans rfl) (fun K' hK => ?_) AllReadyH.nil)
  refine wanted_goM rfl ?_
  refine wp_load_mid 111 (.tmp 7) rfl h 2 rfl (pL s) _ (hRow_s (HH.out.below (Below.refl _ _).drew HH.out.lt)) Tryd.underlying111 rfl info_pol ?_
  refine hK.out _ _ hG (fun _ => ?_)
  clear hK K'
  refine wpAnyH_ready (rs := [6]) (by kernel_rfl) (by simp) (AllReadyH.cons (List.getElem?_toArray.trans rfl) (fun K' hK => ?_) AllReadyH.nil)
  refine wanted_goM rfl ?_
  go_simp
  refine (plus_any s u W.drew).mono ?_
  rintro e w3 ⟨rfl, hb3⟩
  have HB3 : Hid (Below W.heap.size W w3) := Lib.hid ((Below.refl _ _).drew.trans hb3)
  have hG3 : w3.rangeAt h 0 (pL f) ∧ Wh w3 b 111 (pRow u) := ⟨hRow_f (HH.out.below HB3.out HH.out.lt), HB.out.below HB3.out HB.out.lt⟩
  clear hb3
  refine hK.out _ _ hG3 (fun _ => ?_)
  clear hK K'
  refine wpAnyH_ready (rs := [11]) (by kernel_rfl) (by simp) (AllReadyH.cons (List.getElem?_toArray.trans rfl) (fun K' hK => ?_) AllReadyH.nil)
  refine wanted_goM rfl ?_
  go_simp
  refine (polytimes_any (s ^^^ u) f w3).mono ?_
  rintro e w5 ⟨rfl, hb5⟩
  have HB5 : Hid (Below W.heap.size W w5) := Lib.hid (HB3.out.trans (hb5.mono HB3.out.size))
  have hG5 : w5.rangeAt h 0 (pL f) ∧ Wh w5 b 111 (pRow u) := ⟨hRow_f (HH.out.below HB5.out HH.out.lt), HB.out.below HB5.out HB.out.lt⟩
  clear hb5
  refine hK.out _ _ hG5 (fun _ => ?_)
  clear hK K'
  refine wpAnyH_take (i := 12) (v := .pointer (some ⟨h, 0, none⟩)) (List.getElem?_toArray.trans rfl) (by kernel_rfl) (by kernel_rfl) (by kernel_rfl) (fun _ _ _ h => h) (.inl ⟨rfl, fun w' hS => by simp [go_sem]⟩) hG5 ?_
  refine act_normM (by simp only [Act.put, List.setIfInBounds_toArray, List.set_cons_zero, List.set_cons_succ]; rfl) ?_
  refine wpAnyH_take (i := 13) (v := .pointer (some ⟨h, 2, none⟩)) (List.getElem?_toArray.trans rfl) (by kernel_rfl) (by kernel_rfl) (by kernel_rfl) (fun _ _ _ h => h) (.inl ⟨rfl, fun w' hS => by simp [go_sem]⟩) hG5 ?_
  refine act_normM (by simp only [Act.put, List.setIfInBounds_toArray, List.set_cons_zero, List.set_cons_succ]; rfl) ?_
  have hN5 := HH.out.below HB5.out HH.out.lt
  obtain ⟨hs1, hs2⟩ := hRow_put (u := tmG (s ^^^ u) f) hN5
  have hG6 : (w5.setCells h 2 (pL (tmG (s ^^^ u) f))).rangeAt h 0 (pL f) ∧ Wh (w5.setCells h 2 (pL (tmG (s ^^^ u) f))) b 111 (pRow u) := ⟨hRow_f hs1, hG5.2.grown hs2 (by intro e; have := Option.some.inj e; omega)⟩
  refine wpAnyH_ready (rs := [14]) (by kernel_rfl) (by simp) (AllReadyH.cons (List.getElem?_toArray.trans rfl) (fun K' hK => ?_) AllReadyH.nil)
  refine wanted_goM rfl ?_
  refine wp_store_mid 111 (.tmp 17) (.tmp 15) rfl h 2 (pRow (tmG (s ^^^ u) f)) rfl rfl (hRow_there hN5) info_pol (pL_one _) ?_
  refine hK.out _ _ hG6 (fun _ => ?_)
  clear hK K'
  refine wpAnyH_done (by kernel_rfl) ?_ _
  have HW6 := Lib.hid hs1
  have HG6 := Lib.hid (grown_trans (grown_trans HG.out (grown_below (row := some h) HB5.out)) hs2)
  clear hG hG3 hG5 hG6 hN5 hs1 hs2
  simp only [Act.put]
  go_wp2
  go_end0
  exact ⟨rfl, HW6.out, HG6.out⟩
end

section
open Go.RowKit

theorem grown_setRow (w : World) (g : Nat) (cs : Array Value) : w.grownBy (w.setRow g cs) (some g) :=
  ⟨rfl, rfl, rfl, by simp [World.setRow], fun k _ hne => setRow_other w g k cs (fun e => hne (by rw [e]))⟩

theorem grown_refl (w : World) (row : Option Nat) : w.grownBy w row := ⟨rfl, rfl, rfl, Nat.le_refl _, fun _ _ _ => rfl⟩

theorem wpList_copy_grown {P : Program} {w : World} {ops : Array Oper} {rest : List Oper} {o : Oper} {a : Act} {Q : Exit → Act → World → Prop} (hgd : o.guard = none) (d s : Operand) (dT sT : TypeId)
    (ho : o.op = .call { callee := .builtin .copy, args := #[d, s], argTypes := #[dT, sT] }) (elem : TypeId) (hu : P.underlying dT = some (.slice elem)) (hsz : (P.info? elem).map (·.size) = some 1)
    (dp sp : Option Addr) (dLen dCap sLen sCap : Nat) (hd : a.eval d = .slice dp dLen dCap) (hs : a.eval s = .slice sp sLen sCap)
    (g off : Nat) (cur : Array Value) (t : TypeId) (hg : w.heap[g]? = some (.cells cur t (0, 0))) (cs : List Value) (hn : cs.length = Nat.min sLen dLen)
    (hpos : 0 < cs.length → dp = some ⟨g, off, none⟩ ∧ ∃ ad, sp = some ad ∧ ∀ j v, cs[j]? = some v → w.cell? (ad.add j) = some v)
    (hfit : off + cs.length ≤ cur.size) (h1 : ∀ v ∈ cs, v.oneCell' = true)
    (h : ∀ w', Wh w' g t (splice cur.toList off cs).toArray → w.grownBy w' (some g) → wpList P ops Q rest (a.put o.dst (goInt cs.length)) w') :
    wpList P ops Q (o :: rest) a w := by
  by_cases h0 : cs.length = 0
  · obtain rfl : cs = [] := List.eq_nil_of_length_eq_zero h0
    refine wpList_copy_nothing hgd d s dT sT ho elem hu hsz dp sp dLen dCap sLen sCap hd hs (by simpa using hn.symm) ?_
    exact h w (show _ = _ by simpa [splice] using hg) (grown_refl _ _)
  · obtain ⟨rfl, ad, rfl, hsrc⟩ := hpos (by omega)
    refine wpList_copy_own hgd d s dT sT ho elem hu hsz g off dLen dCap ad sLen sCap hd hs cur t hg cs hn hsrc hfit h1 ?_
    exact h _ (show _ = _ by simpa [splice] using setRow_heap w g _ _ t _ hg) (grown_setRow w g _)
end

section
open Go.RowKit
set_option linter.unusedVariables false

/-- The sum behind j blocks of the bytes. -/
def fdN (f s : W128) (b : List UInt8) : Nat → W128
  | 0 => s
  | j + 1 => tmG (fdN f s b j ^^^ bkG (ckG b j)) f
def fdW (f s : W128) (b : List UInt8) : W128 := fdN f s b ((b.length + 15) / 16)
theorem fdN_hs {h : List UInt8} (hh : h.length = 16) (b : List UInt8) (j : Nat) : fdN (bkG h) 0#128 b j = bkG (hsN h b j) := by
  induction j with
  | zero => exact bk_zero.symm
  | succ j ih => rw [fdN, ih, hsN, bk_tm (xo_len (hsN_len hh b j) (ck_len b j)) hh, bk_xor (hsN_len hh b j) (ck_len b j)]
theorem fdW_hash {h : List UInt8} (hh : h.length = 16) (b : List UInt8) : fdW (bkG h) 0#128 b = bkG (hashL h b) := fdN_hs hh b _
theorem ck_take (b : List UInt8) (j : Nat) : ckG b j = (b.drop (16 * j)).take 16 ++ List.replicate (16 - ((b.drop (16 * j)).take 16).length) 0 := by
  have hx : ((b.drop (16 * j)).take 16).length = min 16 (b.length - 16 * j) := by rw [List.length_take, List.length_drop]
  apply List.ext_getElem?
  intro i
  by_cases hi : i < 16
  · rw [ckG, List.getElem?_map, List.getElem?_range hi, Option.map_some, List.getD_eq_getElem?_getD]
    by_cases h : i < ((b.drop (16 * j)).take 16).length
    · rw [List.getElem?_append_left h, List.getElem?_take_of_lt hi, List.getElem?_drop, List.getElem?_eq_getElem (by omega)]
      rfl
    · rw [List.getElem?_append_right (by omega), List.getElem?_replicate, if_pos (by omega), List.getElem?_eq_none (by omega)]
      rfl
  · rw [List.getElem?_eq_none (by rw [ck_len]; omega), List.getElem?_eq_none (by rw [List.length_append, List.length_replicate]; omega)]
theorem Sx.alloc {w : World} {g : Nat} {A : Option Addr} {xs : List Value} (h : Sx w g A xs) (o : Obj) : Sx (w.alloc o) g A xs := h.below ((Below.refl _ _).alloc (Nat.le_refl _) _)
theorem Sx.cut {w : World} {g : Nat} {b off : Nat} {xs : List Value} (h : Sx w g (some ⟨b, off, none⟩) xs) (q : Nat) : Sx w g (some ⟨b, off + q, none⟩) (xs.drop q) := by
  intro hne
  obtain ⟨b', o', e, h1, h2, h3⟩ := h (by intro e; rw [e] at hne; simp at hne)
  simp only [Option.some.injEq, Addr.mk.injEq, and_true] at e
  obtain ⟨rfl, rfl⟩ := e
  refine ⟨b, off + q, rfl, h1, h2, fun i v hv => ?_⟩
  rw [Nat.add_assoc]
  refine h3 (q + i) v ?_
  rw [← hv, List.getElem?_drop]
def lenV : Value → Nat
  | .slice _ n _ => n
  | _ => 0
/-- Bytes laid over noughts. -/
theorem over_zeros (x : List UInt8) (h : x.length ≤ 16) : ((aRow (List.replicate 16 0)).toList.take 0 ++ (x.map cell8 ++ (aRow (List.replicate 16 0)).toList.drop (0 + (x.map cell8).length))).toArray = aRow (x ++ List.replicate (16 - x.length) 0) := by
  rw [aRow_list, aRow]
  congr 1
  rw [List.take_zero, List.nil_append, Nat.zero_add, List.length_map, List.map_append, ← List.map_drop, List.drop_replicate]

set_option maxRecDepth 100000 in
set_option maxHeartbeats 400000 in
theorem hashadd_any (h : Nat) (f s : W128) (l : List UInt8) (A : Option Addr) (c : Nat) (w : World) (hh : Wh w h 114 (hRow f s)) (hs : Sx w h A (l.map cell8)) (hlc : l.length ≤ c) (hcm : c ≤ maxLen) :
    Calls Tryd.prog 60 #[.pointer (some ⟨h, 0, none⟩), .slice A l.length c] w fun e w' => e = .returned (.tuple #[]) ∧ Wh w' h 114 (hRow f (fdW f s l)) ∧ w.grownBy w' (some h) := by
  have hlt := hh.lt
  have HH := Lib.hid hh
  have HS := Lib.hid hs
  unfold maxLen at hcm
  clear hh hs
  go_enter Tryd.func60, Tryd.ntmps60
  go_wp2
  go_loopw [1, 4, 5] (fun v _ _ wr => ∃ (j : Nat) (r : List UInt8) (A' : Option Addr) (c' : Nat), Deep (r = l.drop (16 * j)) ∧ 16 * j < l.length + 16 ∧ v = .slice A' r.length c' ∧ r.length ≤ c' ∧ c' ≤ 9223372036854775807 ∧ Hid (Sx wr h A' (r.map cell8)) ∧ Hid (Wh wr h 114 (hRow f (fdN f s l j))) ∧ Hid (w.grownBy wr (some h))) (fun v _ _ _ => lenV v)
  case atStart => exact ⟨0, l, A, c, ⟨rfl⟩, by omega, rfl, hlc, hcm, HS, HH, Lib.hid (World.grownBy.refl _ _)⟩
  case round =>
    obtain ⟨j, r, A', c', HR, hj, rfl, hrc, hcm', HSX, HW, HG⟩ := hrel
    clear HH HS
    by_cases hr0 : 0 < r.length
    · obtain ⟨x, hx⟩ : ∃ x, x = r.take 16 := ⟨_, rfl⟩
      obtain ⟨q, hq⟩ : ∃ q, q = x.length := ⟨_, rfl⟩
      have hq2 : q ≤ r.length ∧ q ≤ 16 ∧ 1 ≤ q ∧ (q = r.length ∨ q = 16) := by rw [hq, hx, List.length_take]; omega
      obtain ⟨b2, off2, rfl, hb2, hbg2, hcell2⟩ := HSX.out (by intro e; rw [List.map_eq_nil_iff] at e; rw [e] at hr0; simp at hr0)
      have hzs := hrc
      go_upto_region 2 with (fail)
      rw [zeros16]
      obtain ⟨y, hy⟩ : ∃ y, y = x ++ List.replicate (16 - x.length) 0 := ⟨_, rfl⟩
      have hyl : y.length = 16 := by rw [hy, List.length_append, List.length_replicate]; omega
      have hyc : y = ckG l j := by rw [hy, hx, HR.out, ck_take]
      have hlx : (x.map cell8).length = Nat.min r.length 16 := by
        rw [List.length_map, hx, List.length_take]
        exact Nat.min_comm _ _
      have hqx : (x.map cell8).length = q := by rw [List.length_map, hq]
      have hov := over_zeros x (by omega)
      rw [← hy] at hov
      obtain ⟨n, hn⟩ : ∃ n, n = wr.heap.size := ⟨_, rfl⟩
      have hwn := Wh.new wr 23 (aRow (List.replicate 16 0))
      have hww := HW.out.alloc (.cells (aRow (List.replicate 16 0)) 23)
      have hsx := HSX.out.alloc (.cells (aRow (List.replicate 16 0)) 23)
      have hgw := grown_alloc HG.out (.cells (aRow (List.replicate 16 0)) 23)
      have hsz : (wr.alloc (.cells (aRow (List.replicate 16 0)) 23)).heap.size = n + 1 := by rw [hn]; simp
      have hhn : h < n := by rw [hn]; exact HW.out.lt
      have hbn : b2 < n := by rw [hn]; exact hb2
      have hwn2 : w.heap.size ≤ n := by rw [hn]; exact HG.out.size
      rw [← hn] at hwn ⊢
      clear hcell2 hb2 HG HW HSX hn hzs
      generalize wr.alloc (.cells (aRow (List.replicate 16 0)) 23) = W at *
      have hsrc : ∀ j v, (x.map cell8)[j]? = some v → W.cell? ((⟨b2, off2, none⟩ : Addr).add j) = some v := by
        intro i v hv
        obtain ⟨b', o', e, h1, h2, h3⟩ := hsx (by intro e; rw [List.map_eq_nil_iff] at e; rw [e] at hr0; simp at hr0)
        simp only [Option.some.injEq, Addr.mk.injEq, and_true] at e
        obtain ⟨rfl, rfl⟩ := e
        rw [Addr.add_lit]
        refine h3 i v ?_
        rw [hx, List.map_take, List.getElem?_take] at hv
        split at hv
        · exact hv
        · cases hv
      have HX := Deep.mk hx
      have HQ := Deep.mk hq
      have HY := Deep.mk hyc
      have HYL := Deep.mk hyl
      have HLX := Deep.mk hlx
      have HQX := Deep.mk hqx
      have HOV := Deep.mk hov
      have HSRC := Deep.mk hsrc
      have HWN := Lib.hid hwn
      have HWW := Lib.hid hww
      have HGW := Lib.hid hgw
      have HSX := Lib.hid hsx
      obtain ⟨hq3, hq4, hq5, hq6⟩ := hq2
      have HQ6 := Deep.mk hq6
      have HDL : Hid ((r.drop q).length = r.length - q) := Lib.hid List.length_drop
      clear hx hq hyc hyl hlx hqx hov hsrc hwn hww hgw hsx hq6 hy
      have hW3 : Wh (W.setRow n (aRow y)) n 23 (aRow y) := setRow_heap W n _ _ _ _ HWN.out
      have hG3 : W.grownBy (W.setRow n (aRow y)) (some n) := grown_setRow W n _
      have hH3 : Wh (W.setRow n (aRow y)) h 114 (hRow f (fdN f s l j)) := HWW.out.grown hG3 (by intro e; have := Option.some.inj e; omega)
      have hB3 : w.grownBy (W.setRow n (aRow y)) (some h) := ⟨hG3.os.trans HGW.out.os, hG3.tape.trans HGW.out.tape, hG3.output.trans HGW.out.output, Nat.le_trans HGW.out.size hG3.size, fun i hi hne => (hG3.block i (Nat.lt_of_lt_of_le hi HGW.out.size) (by intro e; have := Option.some.inj e; omega)).trans (HGW.out.block i hi hne)⟩
      have hS3 : Sx (W.setRow n (aRow y)) h (some ⟨b2, off2, none⟩) (r.map cell8) := by
        intro hne
        obtain ⟨b', o', e, h1, h2, h3⟩ := HSX.out hne
        simp only [Option.some.injEq, Addr.mk.injEq, and_true] at e
        obtain ⟨rfl, rfl⟩ := e
        exact ⟨b2, off2, rfl, Nat.lt_of_lt_of_le h1 hG3.size, h2, fun i v hv => (World.cell?_of_block (hG3.block b2 h1 (by intro e; have := Option.some.inj e; omega))).trans (h3 i v hv)⟩
      have HW3 := Lib.hid hW3
      have HH3 := Lib.hid hH3
      have HB3 := Lib.hid hB3
      have HS3 := Lib.hid hS3
      clear hW3 hG3 hH3 hB3 hS3
      go_upto_region 3 with (first
        | (refine wpList_copy_own rfl (.tmp 9) (.tmp 10) 28 28 rfl 5 Tryd.underlying28 (by kernel_rfl) n 0 16 16 ⟨b2, off2, none⟩ r.length c' rfl rfl (aRow (List.replicate 16 0)) _ HWN.out (x.map cell8) HLX.out HSRC.out (by rw [HQX.out, aRow_size]; simpa using hq4) (cell8_one x) ?_; rw [HOV.out, HQX.out]))
      clear HWN HWW HGW HSX HSRC HOV
      generalize W.setRow n (aRow y) = W3 at *
      go_wp2_with (first | (refine wpList_load_blk rfl (.tmp 4) rfl n 0 rfl y HYL.out (Wh.range HW3.out) ?_))
      refine (gof_any y _ HYL.out).mono ?_
      rintro e w4 ⟨rfl, hb4⟩
      have HH4 := Lib.hid (HH3.out.below hb4 HH3.out.lt)
      have HB4 := Lib.hid (grown_trans HB3.out (grown_below (row := some h) hb4))
      have HS4 := Lib.hid (HS3.out.below hb4)
      clear hb4 HW3 HH3 HB3 HS3
      go_wp2_with fail
      refine (hashtake_any h f (fdN f s l j) (bkG y) w4 HH4.out).mono ?_
      rintro e w5 ⟨rfl, hw5, hg5⟩
      have HH5 : Hid (Wh w5 h 114 (hRow f (fdN f s l (j + 1)))) := by
        rw [fdN, ← HY.out]
        exact Lib.hid hw5
      have HB5 := Lib.hid (grown_trans HB4.out hg5)
      have HS5 := Lib.hid (HS4.out.grown hg5)
      have HSC : Hid (Sx w5 h (some ⟨b2, off2 + q, none⟩) ((r.drop q).map cell8)) := by rw [List.map_drop]; exact Lib.hid (HS5.out.cut q)
      have HR' : Deep (r.drop q = l.drop (16 * (j + 1))) := ⟨by
        have e : r.drop q = r.drop 16 := by
          rcases HQ6.out with e | e
          · rw [List.drop_eq_nil_of_le (by omega), List.drop_eq_nil_of_le (by omega)]
          · rw [e]
        rw [e, HR.out, List.drop_drop]
        congr 1⟩
      have hj' : 16 * (j + 1) < l.length + 16 := by
        have e := congrArg List.length HR.out
        rw [List.length_drop] at e
        omega
      clear hw5 hg5 HH4 HB4 HS4
      by_cases hcq : c' = q
      all_goals
        go_wp2
        first
          | (refine ⟨⟨j + 1, r.drop q, some ⟨b2, off2 + q, none⟩, c' - q, HR', hj', ?_, ?_, ?_, HSC, HH5, HB5⟩, ?_⟩; (rw [HDL.out]); (rw [HDL.out]; omega); omega; (simp only [lenV]; omega))
          | (refine ⟨⟨j + 1, r.drop q, some ⟨b2, off2, none⟩, 0, HR', hj', ?_, ?_, ?_, ?_, HH5, HB5⟩, ?_⟩; (rw [HDL.out]); (rw [HDL.out]; omega); omega; (rw [List.drop_eq_nil_of_le (by omega)]; exact Sx.nil _ _ _); (simp only [lenV]; omega))
    · obtain rfl : r = [] := List.eq_nil_of_length_eq_zero (by omega)
      have HWE : Hid (Wh wr h 114 (hRow f (fdW f s l))) := by
        have e := congrArg List.length HR.out
        rw [List.length_drop, List.length_nil] at e
        rw [fdW, show (l.length + 15) / 16 = j by omega]
        exact HW
      clear HW HR hr0
      go_wp2
      go_end0
      exact ⟨rfl, HWE.out, HG.out⟩
end

section
open Go.RowKit
set_option linter.unusedVariables false

theorem built_hash (a b : Int) : Tryd.prog.built 114 [(0, .agg #[.int .u64 a, .int .u64 b])] = some #[.int .u64 a, .int .u64 b, .int .u64 0, .int .u64 0] := by kernel_rfl
theorem hRow_0 (f : W128) : (#[.int .u64 (wq (loG f)), .int .u64 (wq (hiG f)), .int .u64 0, .int .u64 0] : Array Value) = hRow f 0#128 := by
  unfold hRow hL pL
  rw [lo_zero, hi_zero]
  rfl
theorem built_hash' (f : W128) : Tryd.prog.built 114 [(0, .agg (pRow f))] = some (hRow f 0#128) := by rw [← hRow_0]; exact built_hash _ _
theorem info_hash (f s : W128) : (Tryd.prog.info? 114).map (·.size) = some (hRow f s).size := by kernel_rfl
theorem hL_one (f s : W128) : (hRow f s).all (·.oneCell') = true := by simp [hRow, hL, pL, Value.oneCell']
theorem blG_bk {l : List UInt8} (h : l.length = 16) : bkG l = 0#128 ↔ l = List.replicate 16 0 := ⟨fun e => bk_inj h rfl (e.trans bk_zero.symm), fun e => by rw [e]; exact bk_zero⟩
end
end Go.Proofs.YtbnnjkjmadnjkaaDoor
