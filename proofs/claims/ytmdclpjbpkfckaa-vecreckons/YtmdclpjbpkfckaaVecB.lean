/- Package vec: both, over a func that two made, and over a method value. -/
import Derived.Test.YtmdclpjbpkfckaaVecA
namespace Go.Proofs.Ytmdclpjbpkfckaa
open Go.RowKit Go.Proofs.Wd
set_option linter.unusedVariables false
set_option linter.unusedSimpArgs false

set_option maxHeartbeats 2000000 in
theorem vecBothP (U P : Nat) (F : Nat) (eF : ∀ args w, (callFunc F args).run Try.prog w = .ok (.enter F args) w) (f : Int → Int → Int) (g : Int → Int → Bool) (d : Int) (hd : Hid (d = 1 ∨ d = 2)) (c : Bool) (n : Int) (I : World → Prop) (w : World) (hI : Hid (∀ V a b, I a → Mod V a b → V = U ∨ V = w.heap.size → I b))
    (C : Hid (∀ a b c n w, I64 a → I64 b → 0 ≤ n ∧ n < 2305843009213693952 → UC U c n w → I w → Calls Try.prog F #[.int .i64 a, .int .i64 b, .pointer (some ⟨P, 0, none⟩)] w fun e w' => e = .returned (.int .i64 (f a b)) ∧ UC U (c || g a b) (n + d) w' ∧ Mod U w w'))
    (ao bo : Option Addr) (len c1 c2 : Nat) (X Y : Nat → Int) (hl : len ≤ 1000000) (hn : 0 ≤ n ∧ n < 1152921504606846976) (hX : Hid (∀ i, i < len → I64 (X i))) (hY : Hid (∀ i, i < len → I64 (Y i))) (h : UC U c n w) (h0 : I w)
    (hr : Row w ao len X) (ho : Off U len ao) (ht : Row w bo len Y) (hp : Off U len bo) :
    Calls Try.prog 44 #[.slice ao len c1, .slice bo len c2, .func (.func F) #[] #[.pointer (some ⟨P, 0, none⟩)]] w fun e w' =>
      e = .returned (.slice (some ⟨w.heap.size, 0, none⟩) len len) ∧ Blk w.heap.size (ints len (fun i => f (X i) (Y i))) 3 w' ∧ UC U (c || zC g X Y len) (n + d * len) w' ∧ Mod U w w' := by
  have MK := make_ints len hl
  have A0 : Mod w.heap.size w (w.alloc (.cells (ints len (fun _ => 0)) 3)) := Mod.of ((Grown.refl _).alloc _ _)
  have ST : Hid (∃ Z, Blk w.heap.size (ints len Z) 3 (w.alloc (.cells (ints len (fun _ => 0)) 3)) ∧ (∀ i, i < 0 → Z i = f (X i) (Y i)) ∧ UC U (c || zC g X Y 0) (n + d * (0 : Nat)) (w.alloc (.cells (ints len (fun _ => 0)) 3)) ∧ Mod U w (w.alloc (.cells (ints len (fun _ => 0)) 3)) ∧ I (w.alloc (.cells (ints len (fun _ => 0)) 3))) := by
    refine ⟨_, Blk.new w _ _, fun i hi => absurd hi (Nat.not_lt_zero _), ?_, Mod.of ((Grown.refl _).alloc _ _), unhide hI _ _ _ h0 A0 (Or.inr rfl)⟩
    show UC _ (c || false) (n + d * 0) _
    rw [Bool.or_false, Int.mul_zero, Int.add_zero]
    exact Blk.grown h ((Grown.refl _).alloc _ _)
  have HU := Blk.lt h
  have HR := hide hr
  have HO := hide ho
  have HT := hide ht
  have HP := hide hp
  have HN := hide hn
  have HUL : Hid (U < w.heap.size) := HU
  clear h hr ho ht hp A0 h0 hn HU
  go_enter Try.func44, Try.ntmps44
  go_wp2_with fail
  generalize w.alloc (.cells (ints len (fun _ => 0)) 3) = w0 at *
  go_loopw [15] (fun i wr => ∃ k : Nat, k ≤ len ∧ i = .int .i64 k ∧ Hid (∃ Z, Blk w.heap.size (ints len Z) 3 wr ∧ (∀ i, i < k → Z i = f (X i) (Y i)) ∧ UC U (c || zC g X Y k) (n + d * k) wr ∧ Mod U w wr ∧ I wr)) (fun i _ => len - (intOf i).toNat)
  case atStart => exact ⟨0, Nat.zero_le _, rfl, unhide ST⟩
  case round =>
    obtain ⟨k, hk, rfl, HI⟩ := hrel
    by_cases hlt : k < len
    · obtain ⟨Z, hb, hz, hu, hm, hi⟩ := unhide HI
      obtain ⟨b1, o1, rfl, hc1⟩ := ((unhide HR).mod hm (unhide HO)).at hlt
      obtain ⟨b2, o2, rfl, hc2⟩ := ((unhide HT).mod hm (unhide HP)).at hlt
      have CC := hide (unhide C (X k) (Y k) (c || zC g X Y k) (n + d * k) wr (unhide hX k hlt) (unhide hY k hlt) (by have := unhide HN; rcases unhide hd with e | e <;> rw [e] <;> omega) hu hi)
      have B0 := hide (And.intro hb (And.intro hz (And.intro hm hi)))
      clear hb hz hu hm hi HI
      obtain ⟨x, ex⟩ : ∃ x, X k = x := ⟨_, rfl⟩
      obtain ⟨y, ey⟩ : ∃ y, Y k = y := ⟨_, rfl⟩
      rw [ex] at hc1
      rw [ey] at hc2
      rw [ex, ey] at CC
      have EX := hide ex
      have EY := hide ey
      clear ex ey
      go_wp2_with fail
      refine (unhide CC).mono ?_
      rintro e w2 ⟨rfl, h2, m2⟩
      have R : Hid (∃ Z, Blk w.heap.size (ints len Z) 3 (w2.setCell ⟨w.heap.size, k, none⟩ (.int .i64 (f x y))) ∧ (∀ i, i < k + 1 → Z i = f (X i) (Y i)) ∧ UC U (c || zC g X Y (k + 1)) (n + d * ((k + 1 : Nat) : Int)) (w2.setCell ⟨w.heap.size, k, none⟩ (.int .i64 (f x y))) ∧ Mod U w (w2.setCell ⟨w.heap.size, k, none⟩ (.int .i64 (f x y))) ∧ I (w2.setCell ⟨w.heap.size, k, none⟩ (.int .i64 (f x y)))) := by
        obtain ⟨hb, hz, hm, hi⟩ := unhide B0
        have hb2 : Blk w.heap.size (ints len Z) 3 w2 := Blk.keep hb m2 (by have := unhide HUL; omega)
        refine ⟨_, Blk.setI hb2 k _, fun i hi => ?_, ?_, (hm.trans m2).setNew (Nat.le_refl _) _ _, unhide hI _ _ _ (unhide hI _ _ _ hi m2 (Or.inl rfl)) ((Mod.refl _ _).setCell _ _) (Or.inr rfl)⟩
        · by_cases e : i = k
          · subst e; rw [if_pos rfl, unhide EX, unhide EY]
          · rw [if_neg e]; exact hz i (by omega)
        · show UC U (c || (zC g X Y k || g (X k) (Y k))) _ _
          rw [unhide EX, unhide EY, ← Bool.or_assoc, show n + d * ((k + 1 : Nat) : Int) = n + d * k + d by rw [Int.natCast_add, Int.mul_add]; omega]
          exact Blk.keep h2 ((Mod.refl _ _).setCell _ _) (by have := unhide HUL; omega)
      have hb2 : Blk w.heap.size (ints len Z) 3 w2 := Blk.keep (unhide B0).1 m2 (by have := unhide HUL; omega)
      have hk0 : w2.cell? ⟨w.heap.size, k, none⟩ = some (.int .i64 (Z k)) := by rw [Blk.cell hb2, ints_at len Z k hlt]
      have hfz := Blk.free hb2 k
      clear hb2 B0 h2 m2 CC hc1 hc2
      go_wp2
      go_roundw
      case rel => exact ⟨k + 1, by omega, by go_num, R⟩
      case measure => simp [intOf]; omega
    · obtain rfl : k = len := by omega
      have R : Hid (Blk w.heap.size (ints k (fun i => f (X i) (Y i))) 3 wr ∧ UC U (c || zC g X Y k) (n + d * k) wr ∧ Mod U w wr) := by
        obtain ⟨Z, hb, hz, hu, hm, hi⟩ := unhide HI
        rw [ints_congr k Z _ hz] at hb
        exact ⟨hb, hu, hm⟩
      clear HI
      go_wp2
      go_ret
      exact ⟨rfl, unhide R⟩

set_option maxHeartbeats 2000000 in
theorem vecBothM (U P : Nat) (F : Nat) (eF : ∀ args w, (callFunc F args).run Try.prog w = .ok (.enter F args) w) (f : Int → Int → Int) (g : Int → Int → Bool) (d : Int) (hd : Hid (d = 1 ∨ d = 2)) (c : Bool) (n : Int) (I : World → Prop) (w : World) (hI : Hid (∀ V a b, I a → Mod V a b → V = U ∨ V = w.heap.size → I b))
    (C : Hid (∀ a b c n w, I64 a → I64 b → 0 ≤ n ∧ n < 2305843009213693952 → UC U c n w → I w → Calls Try.prog F #[.pointer (some ⟨U, 0, none⟩), .int .i64 a, .int .i64 b] w fun e w' => e = .returned (.int .i64 (f a b)) ∧ UC U (c || g a b) (n + d) w' ∧ Mod U w w'))
    (ao bo : Option Addr) (len c1 c2 : Nat) (X Y : Nat → Int) (hl : len ≤ 1000000) (hn : 0 ≤ n ∧ n < 1152921504606846976) (hX : Hid (∀ i, i < len → I64 (X i))) (hY : Hid (∀ i, i < len → I64 (Y i))) (h : UC U c n w) (h0 : I w)
    (hr : Row w ao len X) (ho : Off U len ao) (ht : Row w bo len Y) (hp : Off U len bo) :
    Calls Try.prog 44 #[.slice ao len c1, .slice bo len c2, .func (.func F) #[.pointer (some ⟨U, 0, none⟩)] #[]] w fun e w' =>
      e = .returned (.slice (some ⟨w.heap.size, 0, none⟩) len len) ∧ Blk w.heap.size (ints len (fun i => f (X i) (Y i))) 3 w' ∧ UC U (c || zC g X Y len) (n + d * len) w' ∧ Mod U w w' := by
  have MK := make_ints len hl
  have A0 : Mod w.heap.size w (w.alloc (.cells (ints len (fun _ => 0)) 3)) := Mod.of ((Grown.refl _).alloc _ _)
  have ST : Hid (∃ Z, Blk w.heap.size (ints len Z) 3 (w.alloc (.cells (ints len (fun _ => 0)) 3)) ∧ (∀ i, i < 0 → Z i = f (X i) (Y i)) ∧ UC U (c || zC g X Y 0) (n + d * (0 : Nat)) (w.alloc (.cells (ints len (fun _ => 0)) 3)) ∧ Mod U w (w.alloc (.cells (ints len (fun _ => 0)) 3)) ∧ I (w.alloc (.cells (ints len (fun _ => 0)) 3))) := by
    refine ⟨_, Blk.new w _ _, fun i hi => absurd hi (Nat.not_lt_zero _), ?_, Mod.of ((Grown.refl _).alloc _ _), unhide hI _ _ _ h0 A0 (Or.inr rfl)⟩
    show UC _ (c || false) (n + d * 0) _
    rw [Bool.or_false, Int.mul_zero, Int.add_zero]
    exact Blk.grown h ((Grown.refl _).alloc _ _)
  have HU := Blk.lt h
  have HR := hide hr
  have HO := hide ho
  have HT := hide ht
  have HP := hide hp
  have HN := hide hn
  have HUL : Hid (U < w.heap.size) := HU
  clear h hr ho ht hp A0 h0 hn HU
  go_enter Try.func44, Try.ntmps44
  go_wp2_with fail
  generalize w.alloc (.cells (ints len (fun _ => 0)) 3) = w0 at *
  go_loopw [15] (fun i wr => ∃ k : Nat, k ≤ len ∧ i = .int .i64 k ∧ Hid (∃ Z, Blk w.heap.size (ints len Z) 3 wr ∧ (∀ i, i < k → Z i = f (X i) (Y i)) ∧ UC U (c || zC g X Y k) (n + d * k) wr ∧ Mod U w wr ∧ I wr)) (fun i _ => len - (intOf i).toNat)
  case atStart => exact ⟨0, Nat.zero_le _, rfl, unhide ST⟩
  case round =>
    obtain ⟨k, hk, rfl, HI⟩ := hrel
    by_cases hlt : k < len
    · obtain ⟨Z, hb, hz, hu, hm, hi⟩ := unhide HI
      obtain ⟨b1, o1, rfl, hc1⟩ := ((unhide HR).mod hm (unhide HO)).at hlt
      obtain ⟨b2, o2, rfl, hc2⟩ := ((unhide HT).mod hm (unhide HP)).at hlt
      have CC := hide (unhide C (X k) (Y k) (c || zC g X Y k) (n + d * k) wr (unhide hX k hlt) (unhide hY k hlt) (by have := unhide HN; rcases unhide hd with e | e <;> rw [e] <;> omega) hu hi)
      have B0 := hide (And.intro hb (And.intro hz (And.intro hm hi)))
      clear hb hz hu hm hi HI
      obtain ⟨x, ex⟩ : ∃ x, X k = x := ⟨_, rfl⟩
      obtain ⟨y, ey⟩ : ∃ y, Y k = y := ⟨_, rfl⟩
      rw [ex] at hc1
      rw [ey] at hc2
      rw [ex, ey] at CC
      have EX := hide ex
      have EY := hide ey
      clear ex ey
      go_wp2_with fail
      refine (unhide CC).mono ?_
      rintro e w2 ⟨rfl, h2, m2⟩
      have R : Hid (∃ Z, Blk w.heap.size (ints len Z) 3 (w2.setCell ⟨w.heap.size, k, none⟩ (.int .i64 (f x y))) ∧ (∀ i, i < k + 1 → Z i = f (X i) (Y i)) ∧ UC U (c || zC g X Y (k + 1)) (n + d * ((k + 1 : Nat) : Int)) (w2.setCell ⟨w.heap.size, k, none⟩ (.int .i64 (f x y))) ∧ Mod U w (w2.setCell ⟨w.heap.size, k, none⟩ (.int .i64 (f x y))) ∧ I (w2.setCell ⟨w.heap.size, k, none⟩ (.int .i64 (f x y)))) := by
        obtain ⟨hb, hz, hm, hi⟩ := unhide B0
        have hb2 : Blk w.heap.size (ints len Z) 3 w2 := Blk.keep hb m2 (by have := unhide HUL; omega)
        refine ⟨_, Blk.setI hb2 k _, fun i hi => ?_, ?_, (hm.trans m2).setNew (Nat.le_refl _) _ _, unhide hI _ _ _ (unhide hI _ _ _ hi m2 (Or.inl rfl)) ((Mod.refl _ _).setCell _ _) (Or.inr rfl)⟩
        · by_cases e : i = k
          · subst e; rw [if_pos rfl, unhide EX, unhide EY]
          · rw [if_neg e]; exact hz i (by omega)
        · show UC U (c || (zC g X Y k || g (X k) (Y k))) _ _
          rw [unhide EX, unhide EY, ← Bool.or_assoc, show n + d * ((k + 1 : Nat) : Int) = n + d * k + d by rw [Int.natCast_add, Int.mul_add]; omega]
          exact Blk.keep h2 ((Mod.refl _ _).setCell _ _) (by have := unhide HUL; omega)
      have hb2 : Blk w.heap.size (ints len Z) 3 w2 := Blk.keep (unhide B0).1 m2 (by have := unhide HUL; omega)
      have hk0 : w2.cell? ⟨w.heap.size, k, none⟩ = some (.int .i64 (Z k)) := by rw [Blk.cell hb2, ints_at len Z k hlt]
      have hfz := Blk.free hb2 k
      clear hb2 B0 h2 m2 CC hc1 hc2
      go_wp2
      go_roundw
      case rel => exact ⟨k + 1, by omega, by go_num, R⟩
      case measure => simp [intOf]; omega
    · obtain rfl : k = len := by omega
      have R : Hid (Blk w.heap.size (ints k (fun i => f (X i) (Y i))) 3 wr ∧ UC U (c || zC g X Y k) (n + d * k) wr ∧ Mod U w wr) := by
        obtain ⟨Z, hb, hz, hu, hm, hi⟩ := unhide HI
        rw [ints_congr k Z _ hz] at hb
        exact ⟨hb, hu, hm⟩
      clear HI
      go_wp2
      go_ret
      exact ⟨rfl, unhide R⟩

end Go.Proofs.Ytmdclpjbpkfckaa
