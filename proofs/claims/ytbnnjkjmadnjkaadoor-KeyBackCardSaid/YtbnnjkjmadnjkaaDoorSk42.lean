/-
  Numbers of HeadBack: first bytes whose protected bits are turned.
  Plain mathematics of HeadBack: what is split of a packet that was put, whatever its protected bits are.
  Plain numbers of packet numbers: how many bytes one needs, its low bytes, the nearest one with these. No program is named here.
  pnum's walks without closures: how many numbers so many bytes tell, low bytes.
  The walks through pnum's closures, cmp.Compare and the loops of slices.IndexFunc over three numbers.
-/
import Derived.Test.YtbnnjkjmadnjkaaDoorSk41
import Derived.Test.YtbnnjkjmadnjkaaDoorSk39
import Derived.IntWalk
import Derived.Test.YtbnnjkjmadnjkaaDoorRows
import Derived.WalkKit
import Derived.WalkSpells
import Derived.WalkLawsBesides
import Derived.LoopN
import Derived.Lib.Hide
import Derived.Deep.QuietTactic
import Derived.Deep.RegionWith
namespace Go.Proofs.YtbnnjkjmadnjkaaDoor
section
set_option linter.unusedVariables false

theorem and15 : ∀ n : Nat, n < 256 → bits .and .u8 (n : Int) 15 = ((n % 16 : Nat) : Int) := by decide +kernel
theorem and31 : ∀ n : Nat, n < 256 → bits .and .u8 (n : Int) 31 = ((n % 32 : Nat) : Int) := by decide +kernel

theorem xor15 : ∀ y : Nat, y < 256 → ∀ r : Nat, r < 16 → bits .xor .u8 (y : Int) (r : Int) = (((bits .xor .u8 (y : Int) (r : Int)).toNat : Nat) : Int) ∧ (bits .xor .u8 (y : Int) (r : Int)).toNat < 256 ∧ (bits .xor .u8 (y : Int) (r : Int)).toNat / 16 = y / 16 ∧
    bits .andNot .u8 (bits .xor .u8 (y : Int) (((bits .xor .u8 (y : Int) (r : Int)).toNat : Nat) : Int)) 15 = 0 := by decide +kernel
theorem xor31 : ∀ y : Nat, y < 256 → ∀ r : Nat, r < 32 → bits .xor .u8 (y : Int) (r : Int) = (((bits .xor .u8 (y : Int) (r : Int)).toNat : Nat) : Int) ∧ (bits .xor .u8 (y : Int) (r : Int)).toNat < 256 ∧ (bits .xor .u8 (y : Int) (r : Int)).toNat / 32 = y / 32 ∧
    bits .andNot .u8 (bits .xor .u8 (y : Int) (((bits .xor .u8 (y : Int) (r : Int)).toNat : Nat) : Int)) 31 = 0 := by decide +kernel

/-- What Bare asks of a long first byte. -/
theorem long_bare {sp k : Nat} (hsp : sp = 0 ∨ sp = 1) (hk : k = 1 ∨ k = 2 ∨ k = 3 ∨ k = 4) :
    bits .and .u8 ((191 + k + 32 * sp : Nat) : Int) 3 = (k : Int) - 1 ∧ (bits .and .u8 ((191 + k + 32 * sp : Nat) : Int) 12 != 0) = false ∧ (bits .and .u8 ((191 + k + 32 * sp : Nat) : Int) 4 != 0) = false := by
  rcases hsp with rfl | rfl <;> rcases hk with rfl | rfl | rfl | rfl <;> decide +kernel

/-- What Bare asks of a short first byte. -/
theorem short_bare {k : Nat} {ph : Bool} (hk : k = 1 ∨ k = 2 ∨ k = 3 ∨ k = 4) :
    bits .and .u8 ((63 + k + (if ph then 4 else 0) : Nat) : Int) 3 = (k : Int) - 1 ∧ (bits .and .u8 ((63 + k + (if ph then 4 else 0) : Nat) : Int) 24 != 0) = false ∧ (bits .and .u8 ((63 + k + (if ph then 4 else 0) : Nat) : Int) 4 != 0) = ph := by
  rcases hk with rfl | rfl | rfl | rfl <;> cases ph <;> decide +kernel

theorem val_low (n k : Nat) : val 0 (be n k) = n % 256 ^ k := by rw [val_be]; omega
end

section
set_option linter.unusedVariables false

theorem back_short {k y0 : Nat} {dst load NB : List UInt8} (hk : NB.length = k) (hd : dst.length ≤ 20) (h20 : 20 ≤ k + load.length) (hy : y0 / 32 = 2) (z : Nat) (l : List UInt8) (hz : z < 256) (hz2 : z / 32 = y0 / 32)
    (hl : l = UInt8.ofNat z :: (dst ++ NB ++ load ++ [])) :
    ∃ t, splitT l dst.length = some t ∧ splitA l dst.length = some (1 + dst.length) ∧ splitP l dst.length = ⟨2, dst, [], []⟩ ∧ 1 + dst.length + k ≤ t ∧ (l.take t).drop (1 + dst.length + k) = load ∧ l.drop t = [] := by
  have hl' : l = UInt8.ofNat z :: (dst ++ (NB ++ load)) := by rw [hl]; simp
  obtain ⟨e1, e2, e3⟩ := short_whole hl' (by rw [UInt8.toNat_ofNat', Nat.mod_eq_of_lt (by omega)]; omega) hd
  have hlen : l.length = 1 + dst.length + (k + load.length) := by rw [hl']; simp [hk]; omega
  have hr : (NB ++ load).length = k + load.length := by simp [hk]
  rw [hr] at e3
  refine ⟨1 + dst.length + (k + load.length), splitT_some e2 e3 h20 (by omega), e2, e1, by omega, ?_, ?_⟩
  · rw [List.take_of_length_le (by omega), hl', show 1 + dst.length + k = (dst.length + k) + 1 by omega, List.drop_succ_cons, ← List.append_assoc]
    exact List.drop_left' (by simp [hk])
  · exact List.drop_of_length_le (by omega)

theorem back_long {sp k y0 : Nat} {dst src tok load behind NB : List UInt8} (own : Int) (hsp : sp = 0 ∨ sp = 1) (htk : sp = 1 → tok = []) (hk : NB.length = k) (hk4 : k ≤ 4) (hd : dst.length ≤ 20) (hs : src.length ≤ 20) (ht : tok.length ≤ 3000) (hlo : load.length ≤ 2000)
    (h20 : 20 ≤ k + load.length) (hy : y0 / 16 = 12 + 2 * sp) (z : Nat) (l : List UInt8) (hz : z < 256) (hz2 : z / 16 = y0 / 16)
    (hl : l = UInt8.ofNat z :: (longB sp dst src tok (k + load.length) ++ NB ++ load ++ behind)) :
    ∃ t, splitT l own = some t ∧ splitA l own = some (1 + (longB sp dst src tok (k + load.length)).length) ∧ splitP l own = ⟨sp, dst, src, tok⟩ ∧ 1 + (longB sp dst src tok (k + load.length)).length + k ≤ t ∧
      (l.take t).drop (1 + (longB sp dst src tok (k + load.length)).length + k) = load ∧ l.drop t = behind := by
  have hl' : l = UInt8.ofNat z :: (longB sp dst src tok (k + load.length) ++ (NB ++ load ++ behind)) := by rw [hl]; simp
  obtain ⟨e1, e2, e3⟩ := long_whole own hl' hsp (by rw [UInt8.toNat_ofNat', Nat.mod_eq_of_lt (by omega)]; omega) htk hd hs (by omega) (by omega)
  generalize longB sp dst src tok (k + load.length) = B at *
  have hlen : l.length = 1 + B.length + (k + load.length) + behind.length := by rw [hl']; simp [hk]; omega
  have hdr : l.drop (1 + B.length + k) = load ++ behind := by
    rw [hl', show 1 + B.length + k = (B.length + k) + 1 by omega, List.drop_succ_cons, List.append_assoc NB, ← List.append_assoc B]
    exact List.drop_left' (by simp [hk])
  refine ⟨1 + B.length + (k + load.length), splitT_some e2 e3 h20 (by omega), e2, e1, by omega, ?_, ?_⟩
  · rw [List.drop_take, hdr, show 1 + B.length + (k + load.length) - (1 + B.length + k) = load.length by omega]
    exact List.take_left' rfl
  · rw [show 1 + B.length + (k + load.length) = (1 + B.length + k) + load.length by omega, ← List.drop_drop, hdr]
    exact List.drop_left' rfl

theorem longB_le {sp m : Nat} {dst src tok : List UInt8} (hd : dst.length ≤ 20) (hs : src.length ≤ 20) (ht : tok.length ≤ 3000) : (longB sp dst src tok m).length ≤ 3200 := by
  unfold longB
  have h1 := szN_le m
  have h2 := szN_le tok.length
  split
  · simp only [List.length_append, List.length_cons, List.length_nil, enc_length]; omega
  · simp only [List.length_append, List.length_cons, List.length_nil, enc_length]; omega
end

section
/-- How many numbers a packet number is ahead of the last one acknowledged. -/
def openN (full acked : Nat) (has : Bool) : Nat := if has then full - min full acked else max full ((full + 1) % 18446744073709551616)

/-- How many bytes a packet number needs that is so far ahead. -/
def needN (w : Nat) : Nat := if w < 128 then 1 else if w < 32768 then 2 else if w < 8388608 then 3 else 4

theorem needN_1 {w : Nat} (h : w < 128) : needN w = 1 := if_pos h
theorem needN_2 {w : Nat} (h1 : ¬ w < 128) (h : w < 32768) : needN w = 2 := by rw [needN, if_neg h1, if_pos h]
theorem needN_3 {w : Nat} (h1 : ¬ w < 32768) (h : w < 8388608) : needN w = 3 := by rw [needN, if_neg (by omega), if_neg h1, if_pos h]
theorem needN_4 {w : Nat} (h1 : ¬ w < 8388608) : needN w = 4 := by rw [needN, if_neg (by omega), if_neg (by omega), if_neg h1]
end

section
open Go.RowKit
set_option linter.unusedVariables false


set_option maxRecDepth 10000 in
set_option maxHeartbeats 400000 in
theorem told_1 (w : World) : Calls Tryd.prog 33 #[.int .i64 1] w fun e w' => e = .returned (.int .u64 256) ∧ w = w' := by
  go_enter Tryd.func33, Tryd.ntmps33
  go_wp2
  go_ret
  exact ⟨rfl, rfl⟩

theorem mayBe_1 (w : World) : Calls Tryd.prog 27 #[.int .i64 1] w fun e w' => e = .returned (.bool true) ∧ w = w' := by
  go_enter Tryd.func27, Tryd.ntmps27
  go_wp2
  go_ret
  exact ⟨rfl, rfl⟩

set_option maxRecDepth 10000 in
set_option maxHeartbeats 400000 in
theorem trunc_1 (n : Nat) (w : World) : Calls Tryd.prog 12 #[.int .u64 (n : Int), .int .i64 1] w fun e w' => e = .returned (.int .u64 ((n % 256 : Nat) : Int)) ∧ w = w' := by
  go_enter Tryd.func12, Tryd.ntmps12
  go_wp2_with first
    | (go_at_call 27; refine (mayBe_1 _).mono ?_; rintro e w1 ⟨rfl, rfl⟩)
    | (go_at_call 33; refine (told_1 _).mono ?_; rintro e w1 ⟨rfl, rfl⟩)
  go_ret
  exact ⟨by simp, rfl⟩

set_option maxRecDepth 10000 in
set_option maxHeartbeats 400000 in
theorem told_2 (w : World) : Calls Tryd.prog 33 #[.int .i64 2] w fun e w' => e = .returned (.int .u64 65536) ∧ w = w' := by
  go_enter Tryd.func33, Tryd.ntmps33
  go_wp2
  go_ret
  exact ⟨rfl, rfl⟩

theorem mayBe_2 (w : World) : Calls Tryd.prog 27 #[.int .i64 2] w fun e w' => e = .returned (.bool true) ∧ w = w' := by
  go_enter Tryd.func27, Tryd.ntmps27
  go_wp2
  go_ret
  exact ⟨rfl, rfl⟩

set_option maxRecDepth 10000 in
set_option maxHeartbeats 400000 in
theorem trunc_2 (n : Nat) (w : World) : Calls Tryd.prog 12 #[.int .u64 (n : Int), .int .i64 2] w fun e w' => e = .returned (.int .u64 ((n % 65536 : Nat) : Int)) ∧ w = w' := by
  go_enter Tryd.func12, Tryd.ntmps12
  go_wp2_with first
    | (go_at_call 27; refine (mayBe_2 _).mono ?_; rintro e w1 ⟨rfl, rfl⟩)
    | (go_at_call 33; refine (told_2 _).mono ?_; rintro e w1 ⟨rfl, rfl⟩)
  go_ret
  exact ⟨by simp, rfl⟩

set_option maxRecDepth 10000 in
set_option maxHeartbeats 400000 in
theorem told_3 (w : World) : Calls Tryd.prog 33 #[.int .i64 3] w fun e w' => e = .returned (.int .u64 16777216) ∧ w = w' := by
  go_enter Tryd.func33, Tryd.ntmps33
  go_wp2
  go_ret
  exact ⟨rfl, rfl⟩

theorem mayBe_3 (w : World) : Calls Tryd.prog 27 #[.int .i64 3] w fun e w' => e = .returned (.bool true) ∧ w = w' := by
  go_enter Tryd.func27, Tryd.ntmps27
  go_wp2
  go_ret
  exact ⟨rfl, rfl⟩

set_option maxRecDepth 10000 in
set_option maxHeartbeats 400000 in
theorem trunc_3 (n : Nat) (w : World) : Calls Tryd.prog 12 #[.int .u64 (n : Int), .int .i64 3] w fun e w' => e = .returned (.int .u64 ((n % 16777216 : Nat) : Int)) ∧ w = w' := by
  go_enter Tryd.func12, Tryd.ntmps12
  go_wp2_with first
    | (go_at_call 27; refine (mayBe_3 _).mono ?_; rintro e w1 ⟨rfl, rfl⟩)
    | (go_at_call 33; refine (told_3 _).mono ?_; rintro e w1 ⟨rfl, rfl⟩)
  go_ret
  exact ⟨by simp, rfl⟩

set_option maxRecDepth 10000 in
set_option maxHeartbeats 400000 in
theorem told_4 (w : World) : Calls Tryd.prog 33 #[.int .i64 4] w fun e w' => e = .returned (.int .u64 4294967296) ∧ w = w' := by
  go_enter Tryd.func33, Tryd.ntmps33
  go_wp2
  go_ret
  exact ⟨rfl, rfl⟩

theorem mayBe_4 (w : World) : Calls Tryd.prog 27 #[.int .i64 4] w fun e w' => e = .returned (.bool true) ∧ w = w' := by
  go_enter Tryd.func27, Tryd.ntmps27
  go_wp2
  go_ret
  exact ⟨rfl, rfl⟩

set_option maxRecDepth 10000 in
set_option maxHeartbeats 400000 in
theorem trunc_4 (n : Nat) (w : World) : Calls Tryd.prog 12 #[.int .u64 (n : Int), .int .i64 4] w fun e w' => e = .returned (.int .u64 ((n % 4294967296 : Nat) : Int)) ∧ w = w' := by
  go_enter Tryd.func12, Tryd.ntmps12
  go_wp2_with first
    | (go_at_call 27; refine (mayBe_4 _).mono ?_; rintro e w1 ⟨rfl, rfl⟩)
    | (go_at_call 33; refine (told_4 _).mono ?_; rintro e w1 ⟨rfl, rfl⟩)
  go_ret
  exact ⟨by simp, rfl⟩

theorem mayBe_no (x : Int) (w : World) (h : x < 1 ∨ 4 < x) : Calls Tryd.prog 27 #[.int .i64 x] w fun e w' => e = .returned (.bool false) ∧ w = w' := by
  go_enter Tryd.func27, Tryd.ntmps27
  rcases h with h | h
  · go_wp2
    go_ret
    exact ⟨by simp, rfl⟩
  · go_wp2
    go_ret
    exact ⟨by simp; omega, rfl⟩

theorem trunc_no (n x : Int) (w : World) (h : x < 1 ∨ 4 < x) : Calls Tryd.prog 12 #[.int .u64 n, .int .i64 x] w fun e w' => e = .returned (.int .u64 0) ∧ w = w' := by
  go_enter Tryd.func12, Tryd.ntmps12
  go_wp2_with (go_at_call 27; refine (mayBe_no x _ h).mono ?_; rintro e w1 ⟨rfl, rfl⟩)
  go_ret
  exact ⟨rfl, rfl⟩
end

section
open Go.RowKit
set_option linter.unusedVariables false

/-- How far two numbers lie apart. -/
def farN (n x : Nat) : Nat := max n x - min n x

set_option maxRecDepth 10000 in
set_option maxHeartbeats 400000 in
theorem far_any (n x B : Nat) (w : World) (hn : n < 18446744073709551616) (hx : x < 18446744073709551616) (hB : w.cell? ⟨B, 0, none⟩ = some (.int .u64 (x : Int))) :
    Calls Tryd.prog 28 #[.int .u64 (n : Int), .pointer (some ⟨B, 0, none⟩)] w fun e w' => e = .returned (.int .u64 ((farN n x : Nat) : Int)) ∧ w = w' := by
  rcases Nat.lt_trichotomy n x with h | h | h
  · have hw : IntKind.u64.wrap ((x : Int) - (n : Int)) = (x : Int) - n := by rw [IntKind.wrap_u64]; omega
    have ho := Lib.hid (show farN n x = x - n by unfold farN; omega)
    go_enter Tryd.func28, Tryd.ntmps28
    go_wp2
    go_ret
    exact ⟨by rw [ho.out]; simp; omega, rfl⟩
  · subst h
    have ho := Lib.hid (show farN n n = 0 by simp [farN])
    go_enter Tryd.func28, Tryd.ntmps28
    go_wp2
    go_ret
    exact ⟨by rw [ho.out]; rfl, rfl⟩
  · have hw : IntKind.u64.wrap ((n : Int) - (x : Int)) = (n : Int) - x := by rw [IntKind.wrap_u64]; omega
    have ho := Lib.hid (show farN n x = n - x by unfold farN; omega)
    go_enter Tryd.func28, Tryd.ntmps28
    go_wp2
    go_ret
    exact ⟨by rw [ho.out]; simp; omega, rfl⟩

theorem isNaN_any (n : Int) (w : World) :
    Calls Tryd.prog 54 #[.int .u64 n] w fun e w' => e = .returned (.bool false) ∧ w = w' := by
  go_enter Tryd.func54, Tryd.ntmps54
  go_wp2
  go_ret
  exact ⟨by simp, rfl⟩

/-- What a comparison answers. -/
def cmpN (a b : Nat) : Int := if a < b then -1 else if b < a then 1 else 0

set_option maxRecDepth 10000 in
set_option maxHeartbeats 400000 in
theorem cmp_any (a b : Nat) (w : World) :
    Calls Tryd.prog 32 #[.int .u64 (a : Int), .int .u64 (b : Int)] w fun e w' => e = .returned (.int .i64 (cmpN a b)) ∧ w = w' := by
  by_cases h : a < b
  · have ho := Lib.hid (show cmpN a b = -1 by simp [cmpN, h])
    go_enter Tryd.func32, Tryd.ntmps32
    go_wp2_with (go_at_call 54; refine (isNaN_any _ _).mono ?_; rintro e w1 ⟨rfl, rfl⟩)
    go_ret
    exact ⟨by rw [ho.out]; rfl, rfl⟩
  · by_cases h2 : b < a
    · have ho := Lib.hid (show cmpN a b = 1 by simp [cmpN, h, h2])
      go_enter Tryd.func32, Tryd.ntmps32
      go_wp2_with (go_at_call 54; refine (isNaN_any _ _).mono ?_; rintro e w1 ⟨rfl, rfl⟩)
      go_ret
      exact ⟨by rw [ho.out]; rfl, rfl⟩
    · have ho := Lib.hid (show cmpN a b = 0 by simp [cmpN, h, h2])
      go_enter Tryd.func32, Tryd.ntmps32
      go_wp2_with (go_at_call 54; refine (isNaN_any _ _).mono ?_; rintro e w1 ⟨rfl, rfl⟩)
      go_ret
      exact ⟨by rw [ho.out]; rfl, rfl⟩

set_option maxRecDepth 10000 in
set_option maxHeartbeats 400000 in
theorem isAbove_any (x : Int) (w : World) :
    Calls Tryd.prog 53 #[.int .u64 x] w fun e w' => e = .returned (.bool (decide (4611686018427387903 < x))) ∧ w = w' := by
  go_enter Tryd.func53, Tryd.ntmps53
  go_wp2
  go_ret
  exact ⟨rfl, rfl⟩

theorem isAbove_yes (x : Int) (w : World) (h : 4611686018427387903 < x) :
    Calls Tryd.prog 53 #[.int .u64 x] w fun e w' => e = .returned (.bool true) ∧ w = w' := by
  have := isAbove_any x w
  rwa [decide_eq_true h] at this

theorem isAbove_no (x : Int) (w : World) (h : x ≤ 4611686018427387903) :
    Calls Tryd.prog 53 #[.int .u64 x] w fun e w' => e = .returned (.bool false) ∧ w = w' := by
  have := isAbove_any x w
  rwa [decide_eq_false (by omega)] at this

set_option maxRecDepth 10000 in
set_option maxHeartbeats 400000 in
theorem index_0 (b : Nat) (x0 x1 x2 : Int) (w : World) (h0 : w.cell? ⟨b, 0, none⟩ = some (.int .u64 x0)) (h1 : w.cell? ⟨b, 1, none⟩ = some (.int .u64 x1)) (h2 : w.cell? ⟨b, 2, none⟩ = some (.int .u64 x2)) (hx0 : 4611686018427387903 < x0) :
    Calls Tryd.prog 72 #[.slice (some ⟨b, 0, none⟩) 3 3, .func (.func 53) #[] #[]] w fun e w' => e = .returned (.int .i64 0) ∧ w = w' := by
  go_enter Tryd.func72, Tryd.ntmps72
  go_wp2_with fail
  refine wp_loop_rounds 1 ?_
  rw [rounds_succ]
  go_wp2_with (go_at_call 53; refine (isAbove_yes _ _ hx0).mono ?_; rintro e w1 ⟨rfl, rfl⟩)
  go_ret
  exact ⟨rfl, rfl⟩

set_option maxRecDepth 10000 in
set_option maxHeartbeats 400000 in
theorem index_2 (b : Nat) (x0 x1 x2 : Int) (w : World) (h0 : w.cell? ⟨b, 0, none⟩ = some (.int .u64 x0)) (h1 : w.cell? ⟨b, 1, none⟩ = some (.int .u64 x1)) (h2 : w.cell? ⟨b, 2, none⟩ = some (.int .u64 x2)) (hx0 : x0 ≤ 4611686018427387903) (hx1 : x1 ≤ 4611686018427387903) (hx2 : 4611686018427387903 < x2) :
    Calls Tryd.prog 72 #[.slice (some ⟨b, 0, none⟩) 3 3, .func (.func 53) #[] #[]] w fun e w' => e = .returned (.int .i64 2) ∧ w = w' := by
  go_enter Tryd.func72, Tryd.ntmps72
  go_wp2_with fail
  refine wp_loop_rounds 3 ?_
  rw [rounds_succ]
  go_wp2_with (go_at_call 53; refine (isAbove_no _ _ hx0).mono ?_; rintro e w1 ⟨rfl, rfl⟩)
  rw [rounds_succ]
  go_wp2_with (go_at_call 53; refine (isAbove_no _ _ hx1).mono ?_; rintro e w1 ⟨rfl, rfl⟩)
  rw [rounds_succ]
  go_wp2_with (go_at_call 53; refine (isAbove_yes _ _ hx2).mono ?_; rintro e w1 ⟨rfl, rfl⟩)
  go_ret
  exact ⟨rfl, rfl⟩

set_option maxRecDepth 10000 in
set_option maxHeartbeats 400000 in
theorem index_n (b : Nat) (x0 x1 x2 : Int) (w : World) (h0 : w.cell? ⟨b, 0, none⟩ = some (.int .u64 x0)) (h1 : w.cell? ⟨b, 1, none⟩ = some (.int .u64 x1)) (h2 : w.cell? ⟨b, 2, none⟩ = some (.int .u64 x2)) (hx0 : x0 ≤ 4611686018427387903) (hx1 : x1 ≤ 4611686018427387903) (hx2 : x2 ≤ 4611686018427387903) :
    Calls Tryd.prog 72 #[.slice (some ⟨b, 0, none⟩) 3 3, .func (.func 53) #[] #[]] w fun e w' => e = .returned (.int .i64 (-1)) ∧ w = w' := by
  go_enter Tryd.func72, Tryd.ntmps72
  go_wp2_with fail
  refine wp_loop_rounds 4 ?_
  rw [rounds_succ]
  go_wp2_with (go_at_call 53; refine (isAbove_no _ _ hx0).mono ?_; rintro e w1 ⟨rfl, rfl⟩)
  rw [rounds_succ]
  go_wp2_with (go_at_call 53; refine (isAbove_no _ _ hx1).mono ?_; rintro e w1 ⟨rfl, rfl⟩)
  rw [rounds_succ]
  go_wp2_with (go_at_call 53; refine (isAbove_no _ _ hx2).mono ?_; rintro e w1 ⟨rfl, rfl⟩)
  rw [rounds_succ]
  go_wp2_with fail
  go_ret
  exact ⟨rfl, rfl⟩
end
end Go.Proofs.YtbnnjkjmadnjkaaDoor
