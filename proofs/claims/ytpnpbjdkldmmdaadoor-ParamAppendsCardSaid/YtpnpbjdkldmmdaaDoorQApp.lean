/-
  Transport parameters: their bytes (param.Append).
-/
import Derived.Test.YtpnpbjdkldmmdaaDoorQMath3
import Derived.Test.YtpnpbjdkldmmdaaDoorQVal
import Derived.Test.YtpnpbjdkldmmdaaDoorQMay
import Derived.Test.YtpnpbjdkldmmdaaDoorLaws
import Derived.Deep.Cut
import Derived.Deep.RegionWith
import Derived.BigQuiet
namespace Go.Proofs.YtpnpbjdkldmmdaaDoor
open Go.RowKit
set_option linter.unusedVariables false

theorem own_lo {w : World} {base B : Nat} {e : TypeId} {v : Value} {n : Nat} {xs : List Value} (h : w.ownsRow base e 1 v n xs) (hB : B ≤ base) : w.ownsRow B e 1 v n xs := by
  refine ⟨h.1, ?_⟩
  rcases h.2 with hn | ⟨g, cap, cur, rfl, hbs, rest⟩
  · exact .inl hn
  · exact .inr ⟨g, cap, cur, rfl, by omega, rest⟩

/-- Bytes under way in memory of the call's own. -/
structure OB (w0 w : World) (v : Value) (l : List UInt8) : Prop where
  own : w.ownsRow w0.heap.size 5 1 v l.length (l.map cell8)
  bel : Below w0.heap.size w0 w

theorem OB.start (w0 : World) : OB w0 w0 (.slice none 0 0) [] := ⟨⟨rfl, .inl ⟨rfl, rfl⟩⟩, Below.refl _ _⟩

theorem OB.below {w0 w w' : World} {v : Value} {l : List UInt8} (h : OB w0 w v l) (hb : Below w.heap.size w w') : OB w0 w' v l := ⟨own_below h.own hb, h.bel.trans (hb.mono h.bel.size)⟩

theorem OB.call {w0 w w' : World} {v : Value} {l l' : List UInt8} {A : Option Addr} {c : Nat} (h : OB w0 w v l) (ho : w'.ownsRow w.heap.size 5 1 (.slice A l'.length c) l'.length (l'.map cell8)) (hb : Below w.heap.size w w') : OB w0 w' (.slice A l'.length c) l' :=
  ⟨own_lo ho h.bel.size, h.bel.trans (hb.mono h.bel.size)⟩

theorem OB.app {w0 w w' : World} {m : Nat} {v v' : Value} {b d : List UInt8} (h : OB w0 w v b) (ho : w'.ownsRow w0.heap.size 5 1 v' (b.length + m) (b.map cell8 ++ d.map cell8)) (hm : d.length = m) (hg : w.grownBy w' v.ownBlock) : OB w0 w' v' (b ++ d) := by
  subst hm
  exact ⟨by rw [List.length_append, List.map_append]; exact ho, h.bel.grown hg h.bel.size (fun k hk => (h.own.lt k hk).1)⟩

theorem OB.sl {w0 w : World} {v : Value} {l : List UInt8} (h : OB w0 w v l) : ∃ A c, v = .slice A l.length c ∧ l.length ≤ c ∧ c ≤ maxLen ∧ Sl w w.heap.size A l := by
  obtain ⟨A, c, rfl, h1, h2⟩ := own_form h.own
  exact ⟨A, c, rfl, h1, h2, Sv.of_own h.own⟩

theorem sv_new2 (w : World) (u v : Value) (t : TypeId) : Sv (w.alloc (.cells #[u, v] t)) (w.heap.size + 1) (some ⟨w.heap.size, 0, none⟩) [u, v] := by
  intro _
  refine ⟨w.heap.size, 0, rfl, by omega, fun i x hx => ?_⟩
  have h := (Wh.new w t #[u, v]).cell i
  rw [Nat.zero_add, h]
  simpa using hx

theorem num_off {p : PQ} {k : Nat} (h : nIdx k = 0) : p.num k = 0 := by
  rcases nIdx_cases k with e | e
  · rcases e with rfl | rfl | rfl | rfl | rfl | rfl | rfl | rfl | rfl <;> cases h
  · unfold PQ.num
    rw [if_neg e.1, if_neg e.2.1, if_neg e.2.2.1, if_neg e.2.2.2.1, if_neg e.2.2.2.2.1, if_neg e.2.2.2.2.2.1, if_neg e.2.2.2.2.2.2.1, if_neg e.2.2.2.2.2.2.2.1, if_neg e.2.2.2.2.2.2.2.2.1]

theorem num_le {p : PQ} (hm : mayQ p = true) {k : Nat} (hk : k < 16) : p.num k ≤ 4611686018427387903 := by
  unfold mayQ at hm
  rw [Bool.and_eq_true] at hm
  rcases okNum_cases p k with ⟨hn, _⟩ | ⟨_, h0, _⟩ | ⟨_, _, hf, _⟩ | ⟨_, _, _, ho⟩
  · rw [num_off hn]; omega
  · omega
  · exact fits_le hf
  · rw [(okTo_mono hm.2 k hk).1] at ho; cases ho

theorem may_two {a b : Nat} (ha : a ≤ 4611686018427387903) (hb : b ≤ 4611686018427387903) : May [a, b] := by
  intro i m hm
  match i with
  | 0 => simp at hm; omega
  | 1 => simp at hm; omega
  | i + 2 => simp at hm

theorem told_succ (p : PQ) (k : Nat) : toldQ p (k + 1) = toldQ p k ++ if valQ p k = [] then [] else partQ k (valQ p k) := rfl

/-- What Append tells where they may not be. -/
def AppBad (w : World) (e : Ending) (w' : World) : Prop := e = .returned (.tuple #[.slice none 0 0, .int .i64 2]) ∧ Below w.heap.size w w'

set_option maxRecDepth 100000 in
set_option maxHeartbeats 1600000 in
theorem qapp_bad (A : Option Addr) (len c : Nat) (R : Array Value) (A0 : Option Addr) (c0 : Nat) (A1 : Option Addr) (c1 : Nat) (p : PQ) (hR : R = prC A0 c0 A1 c1 p) (w : World) (ht : p.tok.length = 16) (hm : mayQ p = false) :
    Calls Tryd.prog 15 #[.slice A len c, .agg R] w (AppBad w) := by
  have hb0 : Below w.heap.size w (w.alloc (.cells R 43)) := (Below.refl _ _).alloc (Nat.le_refl _) _
  have HI : Hid ((Tryd.prog.info? 43).map (·.size) = some R.size) := by
    show _ = _
    rw [hR, prC_size, ht]
    kernel_rfl
  have HW := Lib.hid (Wh.new w 43 R)
  have HM := Lib.hid (fun w => may_any R A0 c0 A1 c1 p hR w ht)
  rw [hm] at HM
  have HB0 := Lib.hid hb0
  clear hR hb0 hm
  go_enter Tryd.func15, Tryd.ntmps15
  go_wp2_with (first
    | (refine wpList_load_row rfl 43 (.tmp 3) rfl w.heap.size rfl _ R (0, 0) _ HW.out Tryd.underlying43 rfl HI.out ?_)
    | (go_at_call 17; refine (HM.out _).mono ?_; rintro e w1 ⟨rfl, hb1⟩))
  go_ret2
  exact ⟨rfl, HB0.out.trans (hb1.mono (by simp))⟩


set_option maxRecDepth 100000 in
set_option maxHeartbeats 3200000 in
theorem qapp_ok (A : Option Addr) (len c : Nat) (b : List UInt8) (R : Array Value) (A0 : Option Addr) (c0 : Nat) (A1 : Option Addr) (c1 : Nat) (p : PQ) (hR : R = prC A0 c0 A1 c1 p) (w : World) (hT : Tab w) (ht : p.tok.length = 16) (hm : mayQ p = true)
    (hlb : b.length = len) (hrb : Sl w w.heap.size A b) (hlenb : len ≤ 65536) (h0 : Sl w w.heap.size A0 p.orig) (h1 : Sl w w.heap.size A1 p.cid) :
    Calls Tryd.prog 15 #[.slice A len c, .agg R] w (Gave w (b ++ bytesQ p) fun v => .tuple #[v, .int .i64 0]) := by
  obtain ⟨i0, hi0, hz0, hz1, hz2⟩ := info_parts info8
  have hb0 : Below w.heap.size w (w.alloc (.cells R 43)) := (Below.refl _ _).alloc (Nat.le_refl _) _
  have HI : Hid ((Tryd.prog.info? 43).map (·.size) = some R.size) := by
    show _ = _
    rw [hR, prC_size, ht]
    kernel_rfl
  have hW := Wh.new w 43 R
  have HW := Lib.hid hW
  have HM := Lib.hid (fun w => may_any R A0 c0 A1 c1 p hR w ht)
  rw [hm] at HM
  have hWP : Wh (w.alloc (.cells R 43)) w.heap.size 43 (prC A0 c0 A1 c1 p) := by rw [← hR]; exact Wh.new _ _ _
  have HWP := Lib.hid hWP
  have HB0 := Lib.hid hb0
  have HT := Lib.hid hT
  have HMAY := Lib.hid hm
  have HTK := Lib.hid ht
  have HLB := Lib.hid hlb
  have HRB := Lib.hid hrb
  have H0 := Lib.hid h0
  have H1 := Lib.hid h1
  have hz : (w.alloc (.cells R 43)).heap.size = w.heap.size + 1 := by simp
  clear hR hb0 hm hW hWP hT ht hlb hrb h0 h1
  go_enter Tryd.func15, Tryd.ntmps15
  go_wp2_with (first
    | (refine wpList_load_row rfl 43 (.tmp 3) rfl w.heap.size rfl _ R (0, 0) _ HW.out Tryd.underlying43 rfl HI.out ?_)
    | (go_at_call 17; refine (HM.out _).mono ?_; rintro e w1 ⟨rfl, hb1⟩))
  have HB1 := Lib.hid (HB0.out.trans (hb1.mono (by omega)))
  have HW1 := Lib.hid (HWP.out.below hb1 HWP.out.lt)
  have hs1 := hb1.size
  have hws1 : w.heap.size < w1.heap.size := by omega
  clear HM HW HI HB0 HWP hb1 hz hs1
  have HO := Lib.hid (OB.start w1)
  go_loopw [6, 13] (fun tv i wr => ∃ k : Nat, k ≤ 16 ∧ i = .int .u64 (k : Int) ∧ Hid (OB w1 wr tv (toldQ p k))) (fun _ i _ => 16 - (intOf i).toNat)
  case atStart => exact ⟨0, Nat.zero_le _, rfl, HO⟩
  case round =>
    clear HO
    obtain ⟨k, hk, rfl, HO⟩ := hrel
    have hbr : Below w.heap.size w wr := HB1.out.trans (HO.out.bel.mono HB1.out.size)
    have hwr : w1.heap.size ≤ wr.heap.size := HO.out.bel.size
    obtain ⟨Ao, co, hov, hoc, hom, hosl⟩ := HO.out.sl
    subst hov
    have hmax := told_max HMAY.out HTK.out k
    by_cases hlt : k < 16
    · have HV := Lib.hid (valueOf_any w.heap.size k A0 c0 A1 c1 p wr (HT.out.below hbr HT.out.lt) (HW1.out.below HO.out.bel hws1) ((H0.out.below hbr).keep hbr.size (fun _ _ => rfl)) ((H1.out.below hbr).keep hbr.size (fun _ _ => rfl)) HTK.out (num_le HMAY.out hlt))
      have hvs := val_short HMAY.out HTK.out k
      have HTS := Lib.hid (told_succ p k)
      have HBR := Lib.hid hbr
      clear hosl hbr
      generalize valQ p k = val at *
      generalize toldQ p k = tl at *
      by_cases hv0 : val.length = 0
      · go_wp2_with (go_at_call 29; refine HV.out.mono ?_; rintro e w2 ⟨A7, q7, rfl, hs7, hb7⟩)
        go_roundw
        case rel => exact ⟨k + 1, by omega, by go_num, Lib.hid (by rw [HTS.out, if_pos (List.eq_nil_of_length_eq_zero hv0), List.append_nil]; exact HO.out.below hb7)⟩
        case measure => simp [intOf]; omega
      · go_wp2_with fail
        refine HV.out.mono ?_
        rintro e w2 ⟨A7, q7, rfl, hs7, hb7⟩
        have ho2 := HO.out.below hb7
        have hwr2 := hb7.size
        have hba : Below w2.heap.size w2 (w2.alloc (.cells #[.int .u64 (k : Int), .int .u64 (val.length : Int)] 23)) := (Below.refl _ _).alloc (Nat.le_refl _) _
        have hza : (w2.alloc (.cells #[.int .u64 (k : Int), .int .u64 (val.length : Int)] 23)).heap.size = w2.heap.size + 1 := by simp
        have hsa : Sn (w2.alloc (.cells #[.int .u64 (k : Int), .int .u64 (val.length : Int)] 23)) (w2.heap.size + 1) (some ⟨w2.heap.size, 0, none⟩) [k, val.length] := sv_new2 w2 _ _ _
        have hoa := ho2.below hba
        have HVA := Lib.hid (append_ok Ao tl.length co (some ⟨w2.heap.size, 0, none⟩) 2 2 tl [k, val.length] (w2.alloc (.cells #[.int .u64 (k : Int), .int .u64 (val.length : Int)] 23)) (w2.heap.size + 1) rfl (by have := Sv.of_own hoa.own; rw [hza] at this; exact this) rfl hsa (by omega) (by omega) (by omega) (may_two (by omega) (by omega)) (HT.out.below (HBR.out.trans ((hb7.mono HBR.out.size).trans (hba.mono (Nat.le_trans HBR.out.size hwr2)))) HT.out.lt))
        have HOA := Lib.hid hoa
        have HS7 := Lib.hid ((hs7.below hba).keep (Nat.le_succ _) (fun _ _ => rfl))
        have hpos : 0 < val.length := by omega
        clear hs7 hb7 ho2 hba hsa hoa HV
        have HE8 : Hid (tl ++ encs [k, val.length] ++ val = tl ++ partQ k val) := by show _ = _; simp [encs, partQ]
        have hl8 : (tl ++ encs [k, val.length]).length ≤ 656 := by
          rw [List.length_append, encs_length]
          have := sumSz_le [k, val.length]
          simp at this
          omega
        have hvl : val.length ≤ 20 := hvs
        have HZA := Lib.hid hza
        clear hza
        generalize tl ++ encs [k, val.length] = l8 at *
        go_upto_region 10 with (go_at_call 30; refine HVA.out.mono ?_; rintro e w3 ⟨A8, q8, rfl, hq8, hm8, hown8, hb8⟩)
        have HO8 := Lib.hid (HOA.out.call hown8 hb8)
        have hz3 := hb8.size
        have HS8 := Lib.hid ((HS7.out.keep (Nat.le_of_eq HZA.out.symm) (fun _ _ => rfl)).below hb8)
        have hza := HZA.out
        have hws3 : w1.heap.size ≤ w3.heap.size := by omega
        clear hown8 hb8 HVA HOA HS7 hza hz3
        go_wp2_with (at_builtin; (refine wpList_append_sv _ rfl _ _ _ rfl w1.heap.size 5 i0 _ 1 Tryd.underlying22 hi0 hz0 hz1 hz2 rfl (.slice A8 l8.length q8) _ _ rfl HO8.out.own _ A7 val.length q7 (val.map cell8) rfl HS8.out (by simp) (cell8_one val) (by unfold maxLen; omega) (by omega) hws3 ?_); intro v9 w9 hown9 hg9 _)
        have HO9 := Lib.hid (HO8.out.app (d := val) hown9 rfl hg9)
        clear hown9 hg9
        go_roundw
        case rel => exact ⟨k + 1, by omega, by go_num, Lib.hid (by rw [HTS.out, if_neg (fun e => by rw [e] at hpos; exact Nat.lt_irrefl 0 hpos), ← HE8.out]; exact HO9.out)⟩
        case measure => simp [intOf]; omega
    · obtain rfl : k = 16 := by omega
      have HBR := Lib.hid hbr
      have hwwr := hbr.size
      have HSR := Lib.hid (HRB.out.below hbr)
      clear hbr
      have HEQ : Hid (toldQ p 16 = bytesQ p) := rfl
      generalize toldQ p 16 = tl at *
      go_upto_region 13 with (first
        | (at_make; (refine wpList_make_own _ rfl _ _ _ rfl w.heap.size 5 i0 _ 1 Tryd.underlying22 hi0 hz0 hz1 _ _ _ (len + tl.length) rfl rfl (by omega) (by rw [hz2]; omega) (by unfold maxLen; omega) hwwr ?_); intro w4 hown4 hg4; have HB4 := Lib.hid ((Below.refl wr.heap.size wr).grown hg4 (Nat.le_refl _) (by simp)); have HS4 := Lib.hid (HSR.out.below (HB4.out.mono hwwr)); have hws4 : w.heap.size ≤ w4.heap.size := Nat.le_trans hwwr HB4.out.size)
        | (at_builtin; refine wpList_append_sv _ rfl _ _ _ rfl w.heap.size 5 i0 _ 1 Tryd.underlying22 hi0 hz0 hz1 hz2 rfl (.slice (some ⟨wr.heap.size, 0, none⟩) 0 (len + tl.length)) 0 [] rfl hown4 _ A len c (b.map cell8) rfl HS4.out (by rw [List.length_map, HLB.out]) (cell8_one b) (by unfold maxLen; omega) (by omega) hws4 ?_; intro v5 w5 hown5 hg5 hat5))
      have HB5 := Lib.hid (HB4.out.grown hg5 HB4.out.size (fun q hq => by obtain rfl := Option.some.inj hq; exact Nat.le_refl _))
      have hws5 : w.heap.size ≤ w5.heap.size := Nat.le_trans hwwr HB5.out.size
      rw [Nat.zero_add, List.nil_append] at hown5
      obtain ⟨A5, q5, rfl, hq5, hm5⟩ := own_form hown5
      have hbt : ∀ q, (Value.slice A5 len q5).ownBlock = some q → wr.heap.size ≤ q := by
        intro q hq
        rcases hat5 with h | h
        · rw [h] at hq; obtain rfl := Option.some.inj hq; exact Nat.le_refl _
        · rw [h] at hq; obtain rfl := Option.some.inj hq; exact HB4.out.size
      have HBT := Lib.hid hbt
      obtain ⟨_, _, hov2, _, _, hosl2⟩ := HO.out.sl
      simp only [Value.slice.injEq] at hov2
      rw [← hov2.1] at hosl2
      have HSO := Lib.hid (hosl2.below HB5.out)
      have HOWN5 := Lib.hid hown5
      clear hg4 hown4 hg5 hown5 hat5 hbt hov2 hosl2
      go_wp2_with (at_builtin; (refine wpList_append_sv _ rfl _ _ _ rfl w.heap.size 5 i0 _ 1 Tryd.underlying22 hi0 hz0 hz1 hz2 rfl (.slice A5 len q5) _ _ rfl HOWN5.out _ Ao tl.length co (tl.map cell8) rfl HSO.out (by simp) (cell8_one tl) (by unfold maxLen; omega) (by omega) hws5 ?_); intro v6 w6 hown6 hg6 _)
      rw [show len + tl.length = (b ++ tl).length by rw [List.length_append, HLB.out], ← List.map_append] at hown6
      obtain ⟨A6, q6, rfl, hq6, hm6⟩ := own_form hown6
      rw [HEQ.out] at *
      go_ret2
      exact ⟨A6, q6, rfl, hq6, hm6, hown6, HBR.out.trans ((HB5.out.grown hg6 HB5.out.size (fun q hq => HBT.out q hq)).mono hwwr)⟩

end Go.Proofs.YtpnpbjdkldmmdaaDoor
