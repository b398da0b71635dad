/- Package vec: reckon, Sum, Less, Dot, of a unit that New made, and of none. -/
import Derived.Test.YtmdclpjbpkfckaaVecB
namespace Go.Proofs.Ytmdclpjbpkfckaa
open Go.RowKit Go.Proofs.Wd
set_option linter.unusedVariables false
set_option linter.unusedSimpArgs false

/-- A list that a call tells: new memory, and no error. -/
def VP (U len : Nat) (Z : Nat → Int) (c : Bool) (n : Int) (w : World) (e : Ending) (w' : World) : Prop :=
  ∃ L, w.heap.size ≤ L ∧ e = .returned (.tuple #[.slice (some ⟨L, 0, none⟩) len len, .int .i64 0]) ∧ Blk L (ints len Z) 3 w' ∧ UC U c n w' ∧ Mod U w w'
theorem VP.from {U len : Nat} {Z : Nat → Int} {c : Bool} {n : Int} {w w1 : World} {e : Ending} {w' : World} (h : VP U len Z c n w1 e w') (m : Mod U w w1) : VP U len Z c n w e w' := by
  obtain ⟨L, h1, h2, h3, h4, h5⟩ := h
  exact ⟨L, Nat.le_trans m.2.2.2.2 h1, h2, h3, h4, m.trans h5⟩

set_option maxHeartbeats 1000000 in
theorem vecReckon_ok (U : Nat) (V : Value) (c : Bool) (n : Int) (ao bo : Option Addr) (len c1 c2 : Nat) (Z : Nat → Int) (C : Bool) (N : Int) (hl : len ≤ 1000000) (hn : 0 ≤ n ∧ n < 2305843009213693952) (w : World) (h : UC U c n w)
    (B : Hid (∀ w1, UC U c n w1 → Mod U w w1 → Calls Try.prog 44 #[.slice ao len c1, .slice bo len c2, V] w1 fun e w' => e = .returned (.slice (some ⟨w1.heap.size, 0, none⟩) len len) ∧ Blk w1.heap.size (ints len Z) 3 w' ∧ UC U C N w' ∧ Mod U w1 w')) :
    Calls Try.prog 29 #[.pointer (some ⟨U, 0, none⟩), .slice ao len c1, .slice bo len c2, V] w fun e w' => VP U len Z C N w e w' := by
  have D := hide (vecRefuse_ok U c n ao bo len c1 c2 hl hn w h)
  clear h
  go_enter Try.func29, Try.ntmps29
  go_wp2_with fail
  refine (unhide D).mono ?_
  rintro e w1 ⟨rfl, h1, m1⟩
  have B1 := hide (unhide B w1 h1 m1)
  have M1 := hide m1
  clear h1 m1 D B
  go_wp2_with fail
  refine (unhide B1).mono ?_
  rintro e w2 ⟨rfl, b2, u2, m2⟩
  have R : Hid (VP U len Z C N w (.returned (.tuple #[.slice (some ⟨w1.heap.size, 0, none⟩) len len, .int .i64 0])) w2) := ⟨_, (unhide M1).2.2.2.2, rfl, b2, u2, (unhide M1).trans m2⟩
  clear b2 u2 m2 B1
  go_wp2
  go_ret2
  exact unhide R

set_option maxHeartbeats 1000000 in
theorem vecReckon_size (U : Nat) (V : Value) (c : Bool) (n : Int) (ao bo : Option Addr) (l1 c1 l2 c2 : Nat) (hne : l1 ≠ l2) (hl : l1 ≤ 1000000) (hk : l2 ≤ 1000000) (hn : 0 ≤ n ∧ n < 2305843009213693952) (w : World) (h : UC U c n w) :
    Calls Try.prog 29 #[.pointer (some ⟨U, 0, none⟩), .slice ao l1 c1, .slice bo l2 c2, V] w fun e w' => e = .returned (.tuple #[.slice none 0 0, .int .i64 3]) ∧ UC U c n w' ∧ Mod U w w' := by
  have D := hide (vecRefuse_size U c n ao bo l1 c1 l2 c2 hne hl hk hn w h)
  clear h
  go_enter Try.func29, Try.ntmps29
  go_wp2_with fail
  refine (unhide D).mono ?_
  rintro e w1 ⟨rfl, h1⟩
  have H1 := hide h1
  clear h1
  go_wp2
  go_ret2
  exact ⟨rfl, unhide H1⟩

set_option maxHeartbeats 1000000 in
theorem vecReckon_none (p : Option Addr) (V : Value) (ao bo : Option Addr) (l1 c1 l2 c2 : Nat) (w : World) (h : NU p w) :
    Calls Try.prog 29 #[.pointer p, .slice ao l1 c1, .slice bo l2 c2, V] w fun e w' => e = .returned (.tuple #[.slice none 0 0, .int .i64 1]) ∧ w' = w := by
  have D := hide (vecRefuse_none p ao bo l1 c1 l2 c2 w h)
  clear h
  go_enter Try.func29, Try.ntmps29
  go_wp2_with fail
  refine (unhide D).mono ?_
  rintro e w1 ⟨rfl, rfl⟩
  go_wp2
  go_ret2
  exact ⟨rfl, rfl⟩

/-- reckon by a func that two made of one of the unit's operations on a list. -/
theorem vecReckonP (U P F : Nat) (eF : ∀ args w, (callFunc F args).run Try.prog w = .ok (.enter F args) w) (f : Int → Int → Int) (g : Int → Int → Bool) (c : Bool) (n : Int)
    (CF : ∀ a b c n ao cap w, I64 a → I64 b → 0 ≤ n ∧ n < 2305843009213693952 → UC U c n w → Row w ao 2 (pairZ a b) → Off U 2 ao → Calls Try.prog F #[.pointer (some ⟨U, 0, none⟩), .slice ao 2 cap] w fun e w' => e = .returned (.int .i64 (f a b)) ∧ UC U (c || g a b) (n + 2) w' ∧ Mod U w w')
    (ao bo : Option Addr) (len c1 c2 : Nat) (X Y : Nat → Int) (hl : len ≤ 1000000) (hn : 0 ≤ n ∧ n < 1152921504606846976) (hX : ∀ i, i < len → I64 (X i)) (hY : ∀ i, i < len → I64 (Y i)) (w : World) (h : UC U c n w)
    (hP : Blk P #[.func (.func F) #[.pointer (some ⟨U, 0, none⟩)] #[]] 51 w) (hPU : P ≠ U)
    (hr : Row w ao len X) (ho : Off U len ao) (ht : Row w bo len Y) (hp : Off U len bo) :
    Calls Try.prog 29 #[.pointer (some ⟨U, 0, none⟩), .slice ao len c1, .slice bo len c2, .func (.func 45) #[] #[.pointer (some ⟨P, 0, none⟩)]] w fun e w' => VP U len (fun i => f (X i) (Y i)) (c || zC g X Y len) (n + 2 * len) w e w' := by
  refine vecReckon_ok U _ c n ao bo len c1 c2 _ _ _ hl ⟨hn.1, by omega⟩ w h (fun w1 h1 m1 => ?_)
  have hP1 := Blk.keep hP m1 hPU
  have hlt := Blk.lt hP1
  exact vecBothP U P 45 (enters_of Try.func45 (by kernel_rfl) rfl) f g 2 (Or.inr rfl) c n (fun w => Blk P #[.func (.func F) #[.pointer (some ⟨U, 0, none⟩)] #[]] 51 w) w1 (fun V a b ia m hv => Blk.keep ia m (by omega))
    (fun a b c n w ha hb hn h hi => vecPair U P F eF f g c n a b ha hb hn (fun ao cap w h hr ho => CF a b c n ao cap w ha hb hn h hr ho) w h hi) ao bo len c1 c2 X Y hl hn hX hY h1 hP1 (hr.mod m1 ho) ho (ht.mod m1 hp) hp

theorem addTwo (U : Nat) (a b : Int) (c : Bool) (n : Int) (ao : Option Addr) (cap : Nat) (w : World) (ha : I64 a) (hb : I64 b) (hn : 0 ≤ n ∧ n < 2305843009213693952) (h : UC U c n w) (hr : Row w ao 2 (pairZ a b)) (ho : Off U 2 ao) :
    Calls Try.prog 27 #[.pointer (some ⟨U, 0, none⟩), .slice ao 2 cap] w fun e w' => e = .returned (.int .i64 (s2N a b)) ∧ UC U (c || s2C a b) (n + 2) w' ∧ Mod U w w' := by
  have := unitAdd U c n ao 2 cap (pairZ a b) hn (by omega) (pairZ_I64 ha hb) w h hr ho
  rw [s2N_th, s2C_th] at this
  exact this
theorem mulTwo (U : Nat) (a b : Int) (c : Bool) (n : Int) (ao : Option Addr) (cap : Nat) (w : World) (ha : I64 a) (hb : I64 b) (hn : 0 ≤ n ∧ n < 2305843009213693952) (h : UC U c n w) (hr : Row w ao 2 (pairZ a b)) (ho : Off U 2 ao) :
    Calls Try.prog 37 #[.pointer (some ⟨U, 0, none⟩), .slice ao 2 cap] w fun e w' => e = .returned (.int .i64 (m2N a b)) ∧ UC U (c || m2C a b) (n + 2) w' ∧ Mod U w w' := by
  have := unitMul U c n ao 2 cap (pairZ a b) hn (by omega) (pairZ_I64 ha hb) w h hr ho
  rw [m2N_th, m2C_th] at this
  exact this

set_option maxHeartbeats 1000000 in
theorem vecSum_ok (U : Nat) (c : Bool) (n : Int) (ao bo : Option Addr) (len c1 c2 : Nat) (X Y : Nat → Int) (hl : len ≤ 1000000) (hn : 0 ≤ n ∧ n < 1152921504606846976) (hX : ∀ i, i < len → I64 (X i)) (hY : ∀ i, i < len → I64 (Y i)) (w : World) (h : UC U c n w)
    (hr : Row w ao len X) (ho : Off U len ao) (ht : Row w bo len Y) (hp : Off U len bo) :
    Calls Try.prog 13 #[.pointer (some ⟨U, 0, none⟩), .slice ao len c1, .slice bo len c2] w fun e w' => VP U len (fun i => s2N (X i) (Y i)) (c || zC s2C X Y len) (n + 2 * len) w e w' := by
  have T := hide (vecTwo (.func (.func 27) #[.pointer (some ⟨U, 0, none⟩)] #[]) w rfl)
  have G : Grown w (w.alloc (.cells #[.func (.func 27) #[.pointer (some ⟨U, 0, none⟩)] #[]] 51)) := (Grown.refl _).alloc _ _
  have Q := hide (vecReckonP U w.heap.size 27 (enters_of Try.func27 (by kernel_rfl) rfl) s2N s2C c n (fun a b c n ao cap w ha hb hn h hr ho => addTwo U a b c n ao cap w ha hb hn h hr ho) ao bo len c1 c2 X Y hl hn hX hY _ (Blk.grown h G) (Blk.new w _ _) (by have := Blk.lt h; omega) (hr.grown G) ho (ht.grown G) hp)
  have M : Hid (Mod U w (w.alloc (.cells #[.func (.func 27) #[.pointer (some ⟨U, 0, none⟩)] #[]] 51))) := Mod.of G
  clear h hr ho ht hp hX hY hn G
  go_enter Try.func13, Try.ntmps13
  go_wp2_with fail
  refine (unhide T).mono ?_
  rintro e w1 ⟨rfl, rfl⟩
  generalize w.alloc (.cells #[.func (.func 27) #[.pointer (some ⟨U, 0, none⟩)] #[]] 51) = w1 at *
  clear T
  go_wp2_with fail
  refine (unhide Q).mono ?_
  rintro e w2 hv
  have R := hide (hv.from (unhide M))
  obtain ⟨L, _, rfl, _⟩ := hv
  clear Q M
  go_wp2
  go_ret2
  exact unhide R

set_option maxHeartbeats 1000000 in
theorem vecSum_size (U : Nat) (c : Bool) (n : Int) (ao bo : Option Addr) (l1 c1 l2 c2 : Nat) (hne : l1 ≠ l2) (hl : l1 ≤ 1000000) (hk : l2 ≤ 1000000) (hn : 0 ≤ n ∧ n < 2305843009213693952) (w : World) (h : UC U c n w) :
    Calls Try.prog 13 #[.pointer (some ⟨U, 0, none⟩), .slice ao l1 c1, .slice bo l2 c2] w fun e w' => e = .returned (.tuple #[.slice none 0 0, .int .i64 3]) ∧ UC U c n w' ∧ Mod U w w' := by
  have T := hide (vecTwo (.func (.func 27) #[.pointer (some ⟨U, 0, none⟩)] #[]) w rfl)
  have G : Grown w (w.alloc (.cells #[.func (.func 27) #[.pointer (some ⟨U, 0, none⟩)] #[]] 51)) := (Grown.refl _).alloc _ _
  have Q := hide (fun V => vecReckon_size U V c n ao bo l1 c1 l2 c2 hne hl hk hn _ (Blk.grown h G))
  have M : Hid (Mod U w (w.alloc (.cells #[.func (.func 27) #[.pointer (some ⟨U, 0, none⟩)] #[]] 51))) := Mod.of G
  clear h hn G hne hl hk
  go_enter Try.func13, Try.ntmps13
  go_wp2_with fail
  refine (unhide T).mono ?_
  rintro e w1 ⟨rfl, rfl⟩
  generalize w.alloc (.cells #[.func (.func 27) #[.pointer (some ⟨U, 0, none⟩)] #[]] 51) = w1 at *
  clear T
  go_wp2_with fail
  refine (unhide Q _).mono ?_
  rintro e w2 ⟨rfl, u2, m2⟩
  have R := hide (And.intro u2 ((unhide M).trans m2))
  clear Q M u2 m2
  go_wp2
  go_ret2
  exact ⟨rfl, unhide R⟩

set_option maxHeartbeats 1000000 in
theorem vecSum_none (p : Option Addr) (ao bo : Option Addr) (l1 c1 l2 c2 : Nat) (w : World) (h : NU p w) :
    Calls Try.prog 13 #[.pointer p, .slice ao l1 c1, .slice bo l2 c2] w fun e w' => e = .returned (.tuple #[.slice none 0 0, .int .i64 1]) ∧ Grown w w' := by
  have T := hide (vecTwo (.func (.func 27) #[.pointer p] #[]) w rfl)
  have G : Grown w (w.alloc (.cells #[.func (.func 27) #[.pointer p] #[]] 51)) := (Grown.refl _).alloc _ _
  have Q := hide (fun V => vecReckon_none p V ao bo l1 c1 l2 c2 _ (h.grown G))
  have M := hide G
  clear h G
  go_enter Try.func13, Try.ntmps13
  go_wp2_with fail
  refine (unhide T).mono ?_
  rintro e w1 ⟨rfl, rfl⟩
  generalize w.alloc (.cells #[.func (.func 27) #[.pointer p] #[]] 51) = w1 at *
  clear T
  go_wp2_with fail
  refine (unhide Q _).mono ?_
  rintro e w2 ⟨rfl, rfl⟩
  go_wp2
  go_ret2
  exact ⟨rfl, unhide M⟩

set_option maxHeartbeats 1000000 in
theorem vecLess_ok (U : Nat) (c : Bool) (n : Int) (ao bo : Option Addr) (len c1 c2 : Nat) (X Y : Nat → Int) (hl : len ≤ 1000000) (hn : 0 ≤ n ∧ n < 1152921504606846976) (hX : ∀ i, i < len → I64 (X i)) (hY : ∀ i, i < len → I64 (Y i)) (w : World) (h : UC U c n w)
    (hr : Row w ao len X) (ho : Off U len ao) (ht : Row w bo len Y) (hp : Off U len bo) :
    Calls Try.prog 16 #[.pointer (some ⟨U, 0, none⟩), .slice ao len c1, .slice bo len c2] w fun e w' => VP U len (fun i => subN (X i) (Y i)) (c || zC subC X Y len) (n + 1 * len) w e w' := by
  have Q := hide (vecReckon_ok U (.func (.func 34) #[.pointer (some ⟨U, 0, none⟩)] #[]) c n ao bo len c1 c2 (fun i => subN (X i) (Y i)) (c || zC subC X Y len) (n + 1 * len) hl ⟨hn.1, by omega⟩ w h (fun w1 h1 m1 =>
    vecBothM U 0 34 (enters_of Try.func34 (by kernel_rfl) rfl) subN subC 1 (Or.inl rfl) c n (fun _ => True) w1 (fun _ _ _ _ _ _ => trivial)
      (fun a b c n w ha hb hn h _ => unitSub U c n a b ha hb hn w h) ao bo len c1 c2 X Y hl hn hX hY h1 trivial (hr.mod m1 ho) ho (ht.mod m1 hp) hp))
  clear h hr ho ht hp hX hY hn
  go_enter Try.func16, Try.ntmps16
  go_wp2_with fail
  refine (unhide Q).mono ?_
  rintro e w2 hv
  have R := hide hv
  obtain ⟨L, _, rfl, _⟩ := hv
  clear Q
  go_wp2
  go_ret2
  exact unhide R

set_option maxHeartbeats 1000000 in
theorem vecLess_size (U : Nat) (c : Bool) (n : Int) (ao bo : Option Addr) (l1 c1 l2 c2 : Nat) (hne : l1 ≠ l2) (hl : l1 ≤ 1000000) (hk : l2 ≤ 1000000) (hn : 0 ≤ n ∧ n < 2305843009213693952) (w : World) (h : UC U c n w) :
    Calls Try.prog 16 #[.pointer (some ⟨U, 0, none⟩), .slice ao l1 c1, .slice bo l2 c2] w fun e w' => e = .returned (.tuple #[.slice none 0 0, .int .i64 3]) ∧ UC U c n w' ∧ Mod U w w' := by
  have Q := hide (fun V => vecReckon_size U V c n ao bo l1 c1 l2 c2 hne hl hk hn _ h)
  clear h hn hne hl hk
  go_enter Try.func16, Try.ntmps16
  go_wp2_with fail
  refine (unhide Q _).mono ?_
  rintro e w2 ⟨rfl, h2⟩
  have R := hide h2
  clear Q h2
  go_wp2
  go_ret2
  exact ⟨rfl, unhide R⟩

set_option maxHeartbeats 1000000 in
theorem vecLess_none (p : Option Addr) (ao bo : Option Addr) (l1 c1 l2 c2 : Nat) (w : World) (h : NU p w) :
    Calls Try.prog 16 #[.pointer p, .slice ao l1 c1, .slice bo l2 c2] w fun e w' => e = .returned (.tuple #[.slice none 0 0, .int .i64 1]) ∧ w' = w := by
  have Q := hide (fun V => vecReckon_none p V ao bo l1 c1 l2 c2 w h)
  clear h
  go_enter Try.func16, Try.ntmps16
  go_wp2_with fail
  refine (unhide Q _).mono ?_
  rintro e w2 ⟨rfl, rfl⟩
  go_wp2
  go_ret2
  exact ⟨rfl, rfl⟩

set_option maxHeartbeats 1000000 in
theorem vecDot_of (p : Value) (a b : Value) (Q : Ending → World → Prop) (x y : Int) (w : World) (D : Hid (Calls Try.prog 39 #[p, a, b] w fun e w' => e = .returned (.tuple #[.int .i64 x, .int .i64 y]) ∧ Q e w')) :
    Calls Try.prog 20 #[p, a, b] w fun e w' => e = .returned (.tuple #[.int .i64 x, .int .i64 y]) ∧ Q e w' := by
  go_enter Try.func20, Try.ntmps20
  go_wp2_with fail
  refine (unhide D).mono ?_
  rintro e w1 ⟨rfl, h1⟩
  have H1 := hide h1
  clear h1
  go_wp2
  go_ret2
  exact ⟨rfl, unhide H1⟩

end Go.Proofs.Ytmdclpjbpkfckaa
