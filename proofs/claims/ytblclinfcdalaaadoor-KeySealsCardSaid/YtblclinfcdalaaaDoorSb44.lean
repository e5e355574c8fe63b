/-
  hostlerref09.whole, eight.
  hostlerref09.Key.turn: the document's own turned text. Printed by tools/gen_gcrturn.py.
-/
import Derived.Test.YtblclinfcdalaaaDoorSb43
namespace Go.Proofs.YtblclinfcdalaaaDoor
section
open Go.RowKit
set_option linter.unusedVariables false

set_option maxRecDepth 100000 in
set_option maxHeartbeats 1000000 in
theorem rwhole_any (l : List UInt8) (A : Option Addr) (c B n : Nat) (w : World) (hB : B ≤ w.heap.size) (hl : l.length = n) (hn : n ≤ 1099511627776) (hs : Sl w B A l) :
    Calls Tryd.prog 116 #[.slice A n c] w (GaveN w (n + (16 - n % 16) % 16) (whL l)) := by
  obtain ⟨i0, hi0, hz0, hz1, hz2⟩ := info_parts info8A
  have HL := Deep.mk hl
  have hln : (l.map cell8).length = n := by rw [List.length_map, HL.out]
  obtain ⟨q, hq⟩ : ∃ q, q = (16 - n % 16) % 16 := ⟨_, rfl⟩
  have HQ : Deep (whL l = l ++ List.replicate q 0) := ⟨by rw [whL, hl, hq]⟩
  have hq16 : q < 16 := by omega
  have hqn : (n + q) % 16 = 0 := by omega
  have hqj : ∀ j, j < q → (n + j) % 16 ≠ 0 := fun j hj => by omega
  have HQJ := Lib.hid hqj
  have HQN := Lib.hid hqn
  rw [← hq]
  clear hl hq hqj hqn
  go_enter Tryd.func116, Tryd.ntmps116
  go_upto_region 2 with (first
    | (at_builtin; refine wpList_append_sv _ rfl (.tmp 4) (.tmp 5) _ rfl w.heap.size 5 i0 _ 1 Tryd.underlying23 hi0 hz0 hz1 hz2 rfl (.slice (some ⟨w.heap.size, 0, none⟩) 0 0) 0 [] rfl (own_none w 5) B A n c (l.map cell8) rfl (sv_alloc hs hB _) hln (cell8_one _) (by unfold maxLen; omega) (by omega) (by simp) ?_; intro v1 w1 ho1 hg1 _; rw [Nat.zero_add, List.nil_append] at ho1; have HO1 := Lib.hid ho1; have HC1 := Lib.hid (below_clone hg1 (Nat.le_refl _)); clear ho1 hg1))
  have HO2 : Hid (OwB w.heap.size 5 w w1 v1 (l ++ List.replicate 0 0)) := Lib.hid ⟨by rw [List.replicate_zero, List.append_nil, HL.out]; exact HO1.out, HC1.out, HC1.out.size⟩
  clear HO1 HC1 hs hln
  go_wp2_with fail
  go_loopw [3] (fun v wr => ∃ j m : Nat, m = n + j ∧ j ≤ q ∧ (∃ A' c', v = .slice A' m c') ∧ Hid (OwB w.heap.size 5 w wr v (l ++ List.replicate j 0))) (fun v _ => n + q - lenV v)
  case atStart =>
    obtain ⟨A1, c1, rfl, _, _⟩ := own_form HO2.out.1
    rw [List.replicate_zero, List.append_nil, HL.out]
    exact ⟨0, n, rfl, by omega, ⟨A1, c1, rfl⟩, by rw [List.replicate_zero, List.append_nil] at HO2 ⊢; rw [HL.out] at HO2; exact HO2⟩
  case round =>
    obtain ⟨j, m, hm, hj, ⟨A1, c1, rfl⟩, HO⟩ := hrel
    clear HO2
    by_cases hlt : j < q
    · have hmod : ¬ m % 16 = 0 := by rw [hm]; exact HQJ.out j hlt
      have hmi : ¬ (m : Int) % 16 = 0 := by omega
      have hd : decide ((m : Int) % 16 = 0) = false := decide_eq_false hmi
      have hd2 : ((m : Int) % 16 == 0) = false := by simpa using hmi
      have hd3 : ((m : Int) % 16 != 0) = true := by simpa using hmi
      have hown := HO.out.1
      have hll : (l ++ List.replicate j (0 : UInt8)).length = m := by rw [List.length_append, List.length_replicate, HL.out, hm]
      rw [hll] at hown
      have hbz := HO.out.2.2
      have HM := Deep.mk hm
      have HLL := Deep.mk hll
      have hm2 : m ≤ 1099511627800 := by omega
      clear hm hmi hmod hll
      go_wp2_with (first
        | (at_builtin; refine wpList_append_sv _ rfl (.tmp 11) (.tmp 12) _ rfl w.heap.size 5 i0 _ 1 Tryd.underlying23 hi0 hz0 hz1 hz2 rfl (.slice A1 m c1) _ _ rfl (hown.alloc _) _ _ 1 1 _ rfl (sv_new _ _ _) rfl (fun u hu => by simp at hu; subst hu; rfl) (by unfold maxLen; omega) (by omega) (by simp; omega) ?_; intro v2 w2 hown2 hg2 hat2; have HO3 := Lib.hid (HO.out.more 0 _ (by rw [HLL.out]; exact hown2) hg2); clear hg2 hat2 hown2))
      have HO4 : Hid (OwB w.heap.size 5 w w2 v2 (l ++ List.replicate (j + 1) 0)) := by
        have h := HO3.out
        rw [List.append_assoc, ← List.replicate_succ'] at h
        exact Lib.hid h
      obtain ⟨A2, c2, e2, _, _⟩ := own_form HO4.out.1
      have hl2 : (l ++ List.replicate (j + 1) (0 : UInt8)).length = m + 1 := by rw [List.length_append, List.length_replicate, HL.out, HM.out]; omega
      rw [hl2] at e2
      subst e2
      refine ⟨⟨j + 1, m + 1, by rw [HM.out]; omega, by omega, ⟨A2, c2, rfl⟩, HO4⟩, by have := HM.out; simp only [lenV]; omega⟩
    · have hjq : j = q := by omega
      have hmod : m % 16 = 0 := by rw [hm, hjq]; exact HQN.out
      have hmi : (m : Int) % 16 = 0 := by omega
      have hd : decide ((m : Int) % 16 = 0) = true := decide_eq_true hmi
      have hd2 : ((m : Int) % 16 == 0) = true := by simpa using hmi
      have hd3 : ((m : Int) % 16 != 0) = false := by simpa using hmi
      have HO5 : Hid (OwB w.heap.size 5 w wr (.slice A1 m c1) (whL l)) := by rw [HQ.out, ← hjq]; exact HO
      have hll : (whL l).length = m := by rw [HQ.out, List.length_append, List.length_replicate, HL.out, hm, hjq]
      have HLL := Deep.mk hll
      have hmq : m = n + q := by omega
      have HMQ := Deep.mk hmq
      obtain ⟨_, _, e, h51, h52⟩ := own_form HO5.out.1
      rw [hll] at e h51
      simp only [Value.slice.injEq] at e
      obtain ⟨rfl, _, rfl⟩ := e
      have H51 := Lib.hid h51
      have H52 := Lib.hid h52
      clear HO hlt hj hjq hmod hmi hm hll hmq h51 h52
      go_wp2
      go_ret
      have ho := HO5.out.1
      rw [HLL.out] at ho
      exact ⟨A1, c1, by rw [← HMQ.out]; rfl, by rw [← HMQ.out]; exact H51.out, H52.out, by rw [← HMQ.out]; exact ho, HO5.out.2.1⟩

/-- A number's bytes, behind j of them, the last one first. -/
def e8K (x : Nat) : Nat → List UInt8
  | 0 => List.replicate 8 0
  | j + 1 => (e8K x j).set (7 - j) (UInt8.ofNat (x / 256 ^ j % 256))
theorem e8K_len (x j : Nat) : (e8K x j).length = 8 := by
  induction j with
  | zero => rfl
  | succ j ih => simp [e8K, ih]
theorem e8K_all (x : Nat) : e8K x 8 = e8L x := by
  unfold e8L
  rw [e8K, e8K, e8K, e8K, e8K, e8K, e8K, e8K, e8K]
  rfl
theorem mod_byte (m : Nat) : (m : Int) % 256 = ((UInt8.ofNat (m % 256)).toNat : Int) := by
  have e : (UInt8.ofNat (m % 256)).toNat = m % 256 := by simp
  rw [e, Int.natCast_emod]
  rfl

set_option maxRecDepth 100000 in
set_option maxHeartbeats 1000000 in
theorem reight_any (n : Nat) (w : World) (hn : n ≤ 1099511627776) :
    Calls Tryd.prog 117 #[.int .i64 (n : Int)] w (GaveN w 8 (e8L (8 * n))) := by
  obtain ⟨i0, hi0, hz0, hz1, hz2⟩ := info_parts info8A
  obtain ⟨X, hX⟩ : ∃ X, X = 8 * n := ⟨_, rfl⟩
  have hXi : 8 * (n : Int) = (X : Int) := by omega
  have hXb : X ≤ 8796093022208 := by omega
  rw [← hX]
  obtain ⟨Z, hZ⟩ : ∃ Z : List UInt8, Z = List.replicate 8 0 := ⟨_, rfl⟩
  have HZR := Deep.mk hZ
  clear hZ hX
  go_enter Tryd.func117, Tryd.ntmps117
  go_upto_region 2 with (first
    | (refine wpList_make_mn w rfl (.const (.int .i64 8)) (.const (.int .i64 8)) 23 rfl 5 i0 _ Tryd.underlying23 hi0 hz0 hz1 rfl .i64 .i64 8 8 8 8 rfl rfl rfl rfl (Nat.le_refl _) (by rw [hz2]; omega) (by omega) ?_; rw [zrow, ← HZR.out]))
  have hbe : Below w.heap.size w (w.alloc (.cells (aRow Z) 5)) := (Below.refl _ _).alloc (Nat.le_refl _) _
  have h1 := Wh.new w 5 (aRow Z)
  obtain ⟨ob, hob⟩ : ∃ b, b = w.heap.size := ⟨_, rfl⟩
  rw [← hob] at h1 ⊢
  have hwo : w.heap.size ≤ ob := by omega
  generalize w.alloc (.cells (aRow Z) 5) = w1 at *
  have HO1 : Hid (Wh w1 ob 5 (aRow (e8K X 0))) := by rw [HZR.out] at h1; exact Lib.hid h1
  have HB1 := Lib.hid hbe
  clear hob h1 hbe
  go_wp2_with fail
  go_loopw [4, 5] (fun x i wr => ∃ j : Nat, j ≤ 8 ∧ i = .int .i64 ((7 : Int) - (j : Int)) ∧ x = .int .u64 ((X / 256 ^ j : Nat) : Int) ∧ Hid (Wh wr ob 5 (aRow (e8K X j))) ∧ Hid (Below w.heap.size w wr)) (fun _ i _ => (intOf i + 1).toNat)
  case atStart => exact ⟨0, by omega, rfl, by rw [Nat.pow_zero, Nat.div_one], HO1, HB1⟩
  case round =>
    obtain ⟨j, hj, rfl, rfl, HO, HB⟩ := hrel
    clear HO1 HB1
    obtain ⟨x, hx⟩ : ∃ x, x = X / 256 ^ j := ⟨_, rfl⟩
    have hxb : x ≤ 8796093022208 := by rw [hx]; exact Nat.le_trans (Nat.div_le_self _ _) hXb
    have hnx : x / 256 = X / 256 ^ (j + 1) := by rw [hx, Nat.div_div_eq_div_mul, Nat.pow_succ]
    rw [← hx]
    obtain ⟨y, hy⟩ : ∃ y, y = UInt8.ofNat (x % 256) := ⟨_, rfl⟩
    have hyb := mod_byte x
    rw [← hy] at hyb
    by_cases hlt : j < 8
    · obtain ⟨i, hi⟩ : ∃ i, i = 7 - j := ⟨_, rfl⟩
      have hki : (7 : Int) - (j : Int) = (i : Int) := by omega
      rw [hki]
      have hci : ∃ u, wr.cell? ⟨ob, i, none⟩ = some (.int .u8 ((u : UInt8).toNat : Int)) := ⟨_, (HO.out.cell i).trans (aRow_at (by rw [e8K_len]; omega))⟩
      obtain ⟨u, hci⟩ := hci
      have hfi := HO.out.frozen i
      have hi8 : (i : Int) < 8 := by omega
      have hid : decide ((i : Int) ≥ 0) = true := by rw [decide_eq_true_iff]; omega
      have hput := HO.out.put i (.int .u8 (y.toNat : Int))
      rw [aRow_set] at hput
      have HNX : Deep ((e8K X j).set i y = e8K X (j + 1)) := ⟨by rw [e8K, hi, hy, hx]⟩
      have HPU := Lib.hid hput
      have HGS := Lib.hid (grown_set wr ob i (.int .u8 (y.toNat : Int)))
      have HX2 := Deep.mk hnx
      have HYB := Deep.mk hyb
      have HJ1 : Deep ((i : Int) - 1 = (7 : Int) - ((j + 1 : Nat) : Int)) := ⟨by omega⟩
      have HJ2 : Hid (j + 1 ≤ 8) := Lib.hid (by omega)
      clear hx hnx hy hyb hi hki hput hlt hj
      go_wp2_with fail
      rw [HYB.out]
      refine ⟨⟨j + 1, HJ2.out, by rw [← HJ1.out], by rw [← HX2.out]; rfl, ?_, ?_⟩, by first | (simp [intOf]; done) | (simp [intOf]; omega)⟩
      · rw [← HNX.out]; exact HPU
      · exact Lib.hid (HB.out.grown HGS.out HB.out.size (fun q hq => by have := Option.some.inj hq; omega))
    · have hj8 : j = 8 := by omega
      obtain ⟨t, ht⟩ : ∃ t, t = (7 : Int) - (j : Int) := ⟨_, rfl⟩
      rw [← ht]
      have htd : decide (t ≥ 0) = false := by rw [decide_eq_false_iff_not]; omega
      have htn : ¬ (0 ≤ t) := by omega
      obtain ⟨z, hz⟩ : ∃ z, z = e8L X := ⟨_, rfl⟩
      have hzl : z.length = 8 := by rw [hz]; exact e8_len _
      have HWN : Hid (Wh wr ob 5 (aRow z)) := by
        have h := HO.out
        rw [hj8, e8K_all] at h
        rw [hz]
        exact Lib.hid h
      have HZ := Deep.mk hz
      have HZL := Deep.mk hzl
      clear HO hx hnx hy hyb ht hj hlt hj8 hz hzl
      go_wp2
      go_ret
      have hown := own_of_wh (l := z.map cell8) HWN.out w.heap.size 8 8 hwo (by rw [List.length_map, HZL.out]) (Nat.le_refl _) (by unfold maxLen; omega)
      rw [List.take_of_length_le (by rw [List.length_map, HZL.out]; exact Nat.le_refl _)] at hown
      exact ⟨_, _, rfl, Nat.le_refl _, by unfold maxLen; omega, by rw [← HZ.out]; exact hown, HB.out⟩
end

section
open Go.RowKit
set_option linter.unusedVariables false

/-- A block that reads as bytes from off, and is not the own row's. -/
def Fr (w : World) (v : Value) (b off : Nat) (l : List UInt8) : Prop := b < w.heap.size ∧ v.ownBlock ≠ some b ∧ ∀ k, k < l.length → w.cell? ⟨b, off + k, none⟩ = some (.int .u8 ((l.getD k 0).toNat : Int))
theorem Fr.alloc {w : World} {v : Value} {b off : Nat} {l : List UInt8} (h : Fr w v b off l) (o : Obj) : Fr (w.alloc o) v b off l :=
  ⟨by have := h.1; simp; omega, h.2.1, fun k hk => (((Below.refl w.heap.size w).alloc (Nat.le_refl _) o).cell (p := ⟨b, off + k, none⟩) h.1).trans (h.2.2 k hk)⟩
theorem Fr.more {w w2 : World} {v v2 : Value} {b off : Nat} {l : List UInt8} (h : Fr w v b off l) (h2 : w.grownBy w2 v.ownBlock) (h3 : v2.ownBlock = v.ownBlock ∨ v2.ownBlock = some w.heap.size) : Fr w2 v2 b off l :=
  ⟨Nat.lt_of_lt_of_le h.1 h2.size, by
    rcases h3 with e | e
    · rw [e]; exact h.2.1
    · rw [e]
      intro e2
      have := Option.some.inj e2
      have := h.1
      omega, fun k hk => (World.cell?_of_block (h2.block b h.1 (fun e => h.2.1 e.symm))).trans (h.2.2 k hk)⟩

set_option maxRecDepth 100000 in
set_option maxHeartbeats 4000000 in
theorem rturn_any (key nn l : List UInt8) (Ab Aw A B : Option Addr) (cb cw c d D n : Nat) (w : World) (hD : D ≤ w.heap.size) (hk : key.length = 16) (hK : KeyIs w D Ab Aw key) (hl : nn.length = 12) (hs : Sl w D A nn)
    (ht : Sl w D B l) (hln : l.length = n) (hn : n ≤ 1048576) :
    Calls Tryd.prog 77 #[.agg (kRow Ab Aw cb cw), .slice A 12 c, .slice B n d] w (GaveN w n (tuL (ksL key) nn l)) := by
  obtain ⟨i0, hi0, hz0, hz1, hz2⟩ := info_parts info8A
  obtain ⟨T, hT⟩ : ∃ T, T = tuL (ksL key) nn l := ⟨_, rfl⟩
  have HTL : Deep (T.length = n) := ⟨by rw [hT, tu_len, hln]⟩
  have HT0 := Deep.mk hT
  have HKL := Deep.mk hk
  have HNL := Deep.mk hl
  have HLN := Deep.mk hln
  have HK := Lib.hid hK
  have HS := Lib.hid hs
  have HT := Lib.hid ht
  have h1 := Wh.new w 73 (kRow Ab Aw cb cw)
  have hbe : Below w.heap.size w (w.alloc (.cells (kRow Ab Aw cb cw) 73)) := (Below.refl _ _).alloc (Nat.le_refl _) _
  have h0 : (w.alloc (.cells (kRow Ab Aw cb cw) 73)).ownsRow w.heap.size 5 1 (.slice none 0 0) 0 ((T.take 0).map cell8) := World.ownsRow_nil _ _ _ 1
  clear hk hK hl hs ht hT hln
  rw [← HT0.out]
  go_enter Tryd.func77, Tryd.ntmps77
  go_upto_region 1 with (fail)
  obtain ⟨kb, hkb⟩ : ∃ b, b = w.heap.size := ⟨_, rfl⟩
  rw [← hkb] at h1 ⊢
  have HKS : Hid ((w.alloc (.cells (kRow Ab Aw cb cw) 73)).heap.size = kb + 1) := Lib.hid (by rw [hkb]; simp)
  have HKB : Hid (kb = w.heap.size) := Lib.hid hkb
  generalize w.alloc (.cells (kRow Ab Aw cb cw) 73) = w1 at *
  have H1 := Lib.hid (show Kp w1 (.slice none 0 0) kb 73 (kRow Ab Aw cb cw) from ⟨h1, by simp [Value.ownBlock]⟩)
  have HO1 : Hid (OwB w.heap.size 5 w w1 (.slice none 0 0) (T.take 0)) := Lib.hid ⟨h0, hbe, hbe.size⟩
  clear hkb h1 hbe h0
  go_wp2_with fail
  go_loopw [7, 8, 9, 10] (fun v at_ _ _ wr => ∃ (j m : Nat), m = 16 * j ∧ m < n + 16 ∧ at_ = .int .i64 (m : Int) ∧ Hid (OwB w.heap.size 5 w wr v (T.take m)) ∧ Hid (Kp wr v kb 73 (kRow Ab Aw cb cw))) (fun _ at_ _ _ _ => n + 16 - (intOf at_).toNat)
  case atStart => exact ⟨0, 0, rfl, by omega, rfl, HO1, H1⟩
  case round =>
    obtain ⟨j, m, hm, hmn, rfl, HO, HP⟩ := hrel
    clear HO1 H1
    by_cases hlt : m < n
    · obtain ⟨q, hq⟩ : ∃ q, q = min 16 (n - m) := ⟨_, rfl⟩
      have hq16 : q ≤ 16 := by omega
      have hqm : m + q ≤ n := by omega
      have hqe : q = 16 ∨ m + q = n := by omega
      obtain ⟨Q, hQ⟩ : ∃ Q, Q = stG (ksL key) nn (2 + j) := ⟨_, rfl⟩
      have hQl : Q.length = 16 := by rw [hQ]; exact st_len _ _ _
      have HTK : Hid (∀ k, k < q → T[m + k]? = some (l.getD (m + k) 0 ^^^ Q.getD k 0)) := Lib.hid (fun k hk => by
        have h := tu_at (ksL key) nn l j k (by omega) (by rw [HLN.out]; omega)
        rw [← HT0.out, ← hQ, ← hm] at h
        rw [h]
        congr 2
        rw [List.getD_eq_getElem?_getD, List.getElem?_drop, ← List.getD_eq_getElem?_getD])
      have hwb : Below w.heap.size w wr := HO.out.2.1
      have hst := rstream_any key nn Ab Aw A cb cw c D (2 + j) wr (Nat.le_trans hD hwb.size) HKL.out (HK.out.below (hwb.mono hD)) HNL.out (HS.out.below (hwb.mono hD)) (by omega)
      rw [← hQ] at hst
      obtain ⟨p, hp⟩ : ∃ p, p = 2 + j := ⟨_, rfl⟩
      rw [← hp] at hst
      have hp1 : 2 + (m : Int) / 16 = (p : Int) := by omega
      have hp2 : p < 100000 := by omega
      have HST := Lib.hid hst
      have HQL := Deep.mk hQl
      have HM := Deep.mk hm
      have HQE := Deep.mk hqe
      obtain ⟨b2, off2, rfl, hb2l, hc2⟩ := Sl.at_ (HT.out) (by rw [HLN.out]; omega)
      have HC2 : Hid (∀ k, k < q → ∀ w', Below w.heap.size w w' → w'.cell? ⟨b2, off2 + (m + k), none⟩ = some (.int .u8 ((l.getD (m + k) 0).toNat : Int))) := Lib.hid (fun k hk w' hb' => (hb'.cell (p := ⟨b2, off2 + (m + k), none⟩) (by exact Nat.lt_of_lt_of_le hb2l hD)).trans (hc2 (m + k) _ (by rw [List.getD_eq_getElem?_getD, List.getElem?_eq_getElem (by rw [HLN.out]; omega)]; rfl)))
      clear hQ hQl hm hq hwb hst hp hqe hb2l hc2
      go_wp2_with (first
        | (refine wpList_load_row rfl 73 (.tmp 3) rfl kb rfl _ (kRow Ab Aw cb cw) _ _ HP.out.1 Tryd.underlying73 rfl (info_key Ab Aw cb cw) ?_))
      refine HST.out.mono ?_
      rintro e w3 ⟨A3, c3, rfl, hs3, hb3⟩
      obtain ⟨b3, o3, rfl, hlo3, hlt3, hc3⟩ := hs3 (by intro e; have := congrArg List.length e; rw [List.length_map, HQL.out] at this; cases this)
      have HO3 := Lib.hid (HO.out.below hb3)
      have HP3 := Lib.hid (HP.out.below hb3)
      have HF3 : Hid (Fr w3 u7 b3 o3 Q) := Lib.hid ⟨hlt3, HO.out.new hlo3, fun k hk => hc3 k _ (by rw [List.getElem?_map, List.getD_eq_getElem?_getD, List.getElem?_eq_getElem hk]; rfl)⟩
      have HP1 := Lib.hid hp1
      clear hb3 hs3 HO HP hlo3 hlt3 hc3 HST hp1 hp2
      go_wp2_with fail
      go_loopw [7, 10] (fun v kk wr => ∃ k : Nat, k ≤ q ∧ kk = .int .i64 (k : Int) ∧ Hid (OwB w.heap.size 5 w wr v (T.take (m + k))) ∧ Hid (Kp wr v kb 73 (kRow Ab Aw cb cw)) ∧ Hid (Fr wr v b3 o3 Q)) (fun _ kk _ => 16 - (intOf kk).toNat)
      case atStart => exact ⟨0, by omega, rfl, HO3, HP3, HF3⟩
      case round =>
        obtain ⟨k, hk, rfl, HO4, HP4, HF4⟩ := hrel
        clear HO3 HP3 HF3
        by_cases hlk : k < q
        · obtain ⟨dd, hd⟩ : ∃ dd, dd = T.take (m + k) := ⟨_, rfl⟩
          have hdl : dd.length ≤ 1048576 := by rw [hd, List.length_take, HTL.out]; omega
          have htk := HTK.out k hlk
          have hcq := HC2.out k hlk
          have hcy := HF4.out.2.2 k (by rw [HQL.out]; omega)
          obtain ⟨x, hx⟩ : ∃ x, x = l.getD (m + k) 0 := ⟨_, rfl⟩
          obtain ⟨y, hy⟩ : ∃ y, y = Q.getD k 0 := ⟨_, rfl⟩
          rw [← hx] at htk hcq
          rw [← hy] at htk hcy
          obtain ⟨z, hz⟩ : ∃ z, z = x ^^^ y := ⟨_, rfl⟩
          rw [← hz] at htk
          have HNX : Deep (T.take (m + (k + 1)) = dd ++ [z]) := ⟨by rw [hd, ← Nat.add_assoc, List.take_add_one, htk]; rfl⟩
          rw [← hd] at HO4
          have HZZ := Deep.mk hz
          obtain ⟨s, hs⟩ : ∃ s, s = m + k := ⟨_, rfl⟩
          have hsi : (m : Int) + (k : Int) = (s : Int) := by omega
          have hsw : IntKind.i64.wrap ((m : Int) + (k : Int)) = (s : Int) := by rw [hsi]; exact IntWalk.i64_in _ (by omega)
          have HSW := Lib.hid hsw
          have hsm : (s : Int) < (n : Int) := by omega
          have hkd : decide ((k : Int) < 16) = true := by rw [decide_eq_true_iff]; omega
          have hsd : decide ((s : Int) < (n : Int)) = true := by rw [decide_eq_true_iff]; omega
          have hsd2 : decide (s < n) = true := by rw [decide_eq_true_iff]; omega
          have hki : (k : Int) < 16 := by omega
          have hsb : s ≤ 1048576 := by omega
          rw [← hs] at hcq
          have HCQ := Lib.hid hcq
          have hbx := HO4.out.2.1.drew
          have HOD : Hid (OwB w.heap.size 5 w wr.drew u7 dd) := Lib.hid ⟨HO4.out.1, hbx, HO4.out.2.2⟩
          have HPD : Hid (Kp wr.drew u7 kb 73 (kRow Ab Aw cb cw)) := Lib.hid HP4.out
          have HFD : Hid (Fr wr.drew u7 b3 o3 Q) := Lib.hid HF4.out
          have HCY : Hid (wr.drew.cell? ⟨b3, o3 + k, none⟩ = some (.int .u8 (y.toNat : Int))) := Lib.hid hcy
          clear hd htk hcq hcy hx hy hz hs hsw HO4 HP4 HF4 hbx
          go_wp2_with fail
          clear hsi hsd hsd2 hkd
          have hG : Below w.heap.size w wr.drew ∧ wr.drew.cell? ⟨b3, o3 + k, none⟩ = some (.int .u8 (y.toNat : Int)) := ⟨HOD.out.2.1, HCY.out⟩
          refine wp_region_held_drew (S := fun w' => Below w.heap.size w w' ∧ w'.cell? ⟨b3, o3 + k, none⟩ = some (.int .u8 (y.toNat : Int))) (by kernel_rfl) hG (fun _ => ?_)
          generalize wr.drew = wd at *
          refine wpAnyH_take (i := 0) (v := u7) (List.getElem?_toArray.trans rfl) (by kernel_rfl) (by kernel_rfl) (by kernel_rfl) (fun _ _ _ h => h) (.inl ⟨rfl, fun w' hS => rfl⟩) hG ?_
          refine act_normM (by simp only [Act.put, List.setIfInBounds_toArray, List.set_cons_zero, List.set_cons_succ]; rfl) ?_
          refine wpAnyH_take (i := 1) (v := .slice (some ⟨b2, off2, none⟩) n d) (List.getElem?_toArray.trans rfl) (by kernel_rfl) (by kernel_rfl) (by kernel_rfl) (fun _ _ _ h => h) (.inl ⟨rfl, fun w' hS => rfl⟩) hG ?_
          refine act_normM (by simp only [Act.put, List.setIfInBounds_toArray, List.set_cons_zero, List.set_cons_succ]; rfl) ?_
          refine wpAnyH_take (i := 2) (v := .int .i64 (m : Int)) (List.getElem?_toArray.trans rfl) (by kernel_rfl) (by kernel_rfl) (by kernel_rfl) (fun _ _ _ h => h) (.inl ⟨rfl, fun w' hS => rfl⟩) hG ?_
          refine act_normM (by simp only [Act.put, List.setIfInBounds_toArray, List.set_cons_zero, List.set_cons_succ]; rfl) ?_
          refine wpAnyH_take (i := 3) (v := .int .i64 (k : Int)) (List.getElem?_toArray.trans rfl) (by kernel_rfl) (by kernel_rfl) (by kernel_rfl) (fun _ _ _ h => h) (.inl ⟨rfl, fun w' hS => rfl⟩) hG ?_
          refine act_normM (by simp only [Act.put, List.setIfInBounds_toArray, List.set_cons_zero, List.set_cons_succ]; rfl) ?_
          refine wpAnyH_take (i := 4) (v := .int .i64 (s : Int)) (List.getElem?_toArray.trans rfl) (by kernel_rfl) (by kernel_rfl) (by kernel_rfl) (fun _ _ _ h => h) (.inl ⟨rfl, fun w' hS => by simp [go_sem, HSW.out]⟩) hG ?_
          refine act_normM (by simp only [Act.put, List.setIfInBounds_toArray, List.set_cons_zero, List.set_cons_succ]; rfl) ?_
          refine wpAnyH_take (i := 5) (v := .pointer (some ⟨b2, off2 + s, none⟩)) (List.getElem?_toArray.trans rfl) (by kernel_rfl) (by kernel_rfl) (by kernel_rfl) (fun _ _ _ h => h) (.inl ⟨rfl, fun w' hS => by simp [go_sem, hsm]⟩) hG ?_
          refine act_normM (by simp only [Act.put, List.setIfInBounds_toArray, List.set_cons_zero, List.set_cons_succ]; rfl) ?_
          refine wpAnyH_take (i := 6) (v := .int .u8 (x.toNat : Int)) (List.getElem?_toArray.trans rfl) (by kernel_rfl) (by kernel_rfl) (by kernel_rfl) (fun _ _ _ h => h) (.inl ⟨rfl, fun w' hS => by have hc := HCQ.out w' hS.1; simp [go_sem, hc]⟩) hG ?_
          refine act_normM (by simp only [Act.put, List.setIfInBounds_toArray, List.set_cons_zero, List.set_cons_succ]; rfl) ?_
          refine wpAnyH_take (i := 7) (v := .slice (some ⟨b3, o3, none⟩) 16 c3) (List.getElem?_toArray.trans rfl) (by kernel_rfl) (by kernel_rfl) (by kernel_rfl) (fun _ _ _ h => h) (.inl ⟨rfl, fun w' hS => rfl⟩) hG ?_
          refine act_normM (by simp only [Act.put, List.setIfInBounds_toArray, List.set_cons_zero, List.set_cons_succ]; rfl) ?_
          refine wpAnyH_take (i := 8) (v := .int .i64 (k : Int)) (List.getElem?_toArray.trans rfl) (by kernel_rfl) (by kernel_rfl) (by kernel_rfl) (fun _ _ _ h => h) (.inl ⟨rfl, fun w' hS => rfl⟩) hG ?_
          refine act_normM (by simp only [Act.put, List.setIfInBounds_toArray, List.set_cons_zero, List.set_cons_succ]; rfl) ?_
          refine wpAnyH_take (i := 9) (v := .pointer (some ⟨b3, o3 + k, none⟩)) (List.getElem?_toArray.trans rfl) (by kernel_rfl) (by kernel_rfl) (by kernel_rfl) (fun _ _ _ h => h) (.inl ⟨rfl, fun w' hS => by simp [go_sem, hki]⟩) hG ?_
          refine act_normM (by simp only [Act.put, List.setIfInBounds_toArray, List.set_cons_zero, List.set_cons_succ]; rfl) ?_
          refine wpAnyH_take (i := 10) (v := .int .u8 (y.toNat : Int)) (List.getElem?_toArray.trans rfl) (by kernel_rfl) (by kernel_rfl) (by kernel_rfl) (fun _ _ _ h => h) (.inl ⟨rfl, fun w' hS => by have hc := hS.2; simp [go_sem, hc]⟩) hG ?_
          refine act_normM (by simp only [Act.put, List.setIfInBounds_toArray, List.set_cons_zero, List.set_cons_succ]; rfl) ?_
          refine wpAnyH_take (i := 11) (v := .int .u8 (z.toNat : Int)) (List.getElem?_toArray.trans rfl) (by kernel_rfl) (by kernel_rfl) (by kernel_rfl) (fun _ _ _ h => h) (.inl ⟨rfl, fun w' hS => by rw [HZZ.out, ← b_xor]; simp [go_sem]⟩) hG ?_
          refine act_normM (by simp only [Act.put, List.setIfInBounds_toArray, List.set_cons_zero, List.set_cons_succ]; rfl) ?_
          refine wpAnyH_ready (rs := [12]) (by kernel_rfl) (by simp) (AllReadyH.cons (List.getElem?_toArray.trans rfl) (fun K' hK => ?_) AllReadyH.nil)
          refine wanted_goM rfl ?_
          go_simp
          obtain ⟨zb, hzb⟩ : ∃ b, b = wd.heap.size := ⟨_, rfl⟩
          have hs4 := sv_new wd (.int .u8 (z.toNat : Int)) 5
          rw [← hzb] at hs4 ⊢
          have hfa := HFD.out.alloc (.cells #[.int .u8 (z.toNat : Int)] 5)
          have hG4 : Below w.heap.size w (wd.alloc (.cells #[.int .u8 (z.toNat : Int)] 5)) ∧ (wd.alloc (.cells #[.int .u8 (z.toNat : Int)] 5)).cell? ⟨b3, o3 + k, none⟩ = some (.int .u8 (y.toNat : Int)) :=
            ⟨hG.1.alloc HOD.out.2.2 _, (((Below.refl wd.heap.size wd).alloc (Nat.le_refl _) _).cell (p := ⟨b3, o3 + k, none⟩) HFD.out.1).trans hG.2⟩
          have ho4 := HOD.out.1.alloc (.cells #[.int .u8 (z.toNat : Int)] 5)
          clear hzb
          refine hK.out _ _ hG4 (fun _ => ?_)
          clear hK K'
          refine wpAnyH_ready (rs := [13]) (by kernel_rfl) (by simp) (AllReadyH.cons (List.getElem?_toArray.trans rfl) (fun K' hK => ?_) AllReadyH.nil)
          refine step_app_svA rfl (.tmp 36) (.tmp 48) _ rfl w.heap.size 5 i0 _ 1 Tryd.underlying23 hi0 hz0 hz1 hz2 rfl u7 _ _ rfl ho4 _ (some ⟨zb, 0, none⟩) 1 1 [.int .u8 (z.toNat : Int)] rfl hs4 rfl (fun u hu => by simp at hu; subst hu; rfl) (by unfold maxLen; omega) (by omega) (hG4.1.size) ?_
          intro v5 w5 ho5 hg5 h35
          have HO5 := Lib.hid (HOD.out.more z _ ho5 hg5)
          have HP5 := Lib.hid (HPD.out.more _ hg5 h35)
          have HF5 := Lib.hid (hfa.more hg5 h35)
          have hG5 : Below w.heap.size w w5 ∧ w5.cell? ⟨b3, o3 + k, none⟩ = some (.int .u8 (y.toNat : Int)) := ⟨HO5.out.2.1, (World.cell?_of_block (hg5.block b3 hfa.1 (fun e => hfa.2.1 e.symm))).trans hG4.2⟩
          refine hK.out _ _ hG5 (fun _ => ?_)
          clear hK K'
          refine wpAnyH_take (i := 14) (v := v5) (List.getElem?_toArray.trans rfl) (by kernel_rfl) (by kernel_rfl) (by kernel_rfl) (fun _ _ _ h => h) (.inl ⟨rfl, fun w' hS => rfl⟩) hG5 ?_
          refine act_normM (by simp only [Act.put, List.setIfInBounds_toArray, List.set_cons_zero, List.set_cons_succ]; rfl) ?_
          refine wpAnyH_done (by kernel_rfl) ?_ _
          clear hG hG4 hG5 hs4 hfa ho4 ho5 hg5 h35 HOD HPD HFD HCY HCQ hsm hki
          go_wp2
          refine ⟨⟨k + 1, by omega, by go_num, by rw [HNX.out]; exact HO5, HP5, HF5⟩, by simp [intOf]; omega⟩
        · have hkq : k = q := by omega
          have HTE : Deep (T.take (m + k) = T.take (m + 16)) := ⟨by
            rcases HQE.out with e | e
            · rw [hkq, e]
            · rw [List.take_of_length_le (by rw [HTL.out]; omega), List.take_of_length_le (by rw [HTL.out]; omega)]⟩
          have HO5 : Hid (OwB w.heap.size 5 w wr u7 (T.take (m + 16))) := by rw [← HTE.out]; exact HO4
          have HLT := Lib.hid hlt
          have HJN : Hid (m + 16 = 16 * (j + 1)) := Lib.hid (by have := HM.out; omega)
          obtain ⟨s, hs⟩ : ∃ s, s = m + k := ⟨_, rfl⟩
          have hsi : (m : Int) + (k : Int) = (s : Int) := by omega
          have hsb : s ≤ 1048592 := by omega
          have hkcase : (k = 16) ∨ (k < 16 ∧ s = n) := by have := HQE.out; omega
          clear HO4 HF4 hlk hk hkq
          rcases hkcase with hk16 | ⟨hk16, hsm⟩
          all_goals
            first
              | (have hkd : decide ((k : Int) < 16) = false := by rw [decide_eq_false_iff_not]; omega)
              | (have hkd : decide ((k : Int) < 16) = true := by rw [decide_eq_true_iff]; omega)
            have hsd2 : s = n → decide (s < n) = false := fun e => by rw [decide_eq_false_iff_not]; omega
            first | (have hsd3 := hsd2 hsm) | skip
            clear hsd2 hs
            try clear hk16
            try clear hsm
            go_wp2_with fail
            refine ⟨⟨j + 1, m + 16, HJN.out, by have := HLT.out; omega, by go_num, HO5, HP4⟩, by have := HLT.out; simp [intOf]; omega⟩
    · have hnd : decide (m < n) = false := by rw [decide_eq_false_iff_not]; omega
      have HOT : Hid (OwB w.heap.size 5 w wr u7 T) := by
        have h := HO.out
        rw [List.take_of_length_le (by rw [HTL.out]; omega)] at h
        exact Lib.hid h
      obtain ⟨B5, c5, hB, hB1, hB2⟩ := own_form HOT.out.1
      rw [hB] at HOT ⊢
      have HB1 := Lib.hid hB1
      have HB2 := Lib.hid hB2
      clear HO hlt hB hB1 hB2 HP hm
      go_wp2
      go_ret
      have ho := HOT.out.1
      rw [HTL.out] at ho
      have hl5 := HB1.out
      rw [HTL.out] at hl5
      exact ⟨B5, c5, by rw [HTL.out]; rfl, hl5, HB2.out, ho, HOT.out.2.1⟩
end
end Go.Proofs.YtblclinfcdalaaaDoor
