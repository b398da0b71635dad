/- MatTS MatS MatSu, one after another. -/
import Derived.Test.YtcobicnpdmgnjaaMatO
import Derived.Test.YtcobicnpdmgnjaaMatI
/- Laws with two units under way. -/
namespace Go.Proofs.Ytcobicnpdmgnjaa
open Go.RowKit Go.Shelf Go.Proofs.Wd
set_option linter.unusedVariables false
set_option linter.unusedSimpArgs false

def TS (w : World) (U V : Nat) (cu : Array Value) (tu : TypeId) (cv : Array Value) (tv : TypeId) (bx : List (Nat × Array Value)) (rows : List (Option Addr × Nat × (Nat → Int))) (wx : World) : Prop :=
  Blk U cu tu wx ∧ Blk V cv tv wx ∧ U ≠ V ∧ LS w [U, V] bx rows wx
theorem LS.unit {w : World} {E : List Nat} {bx : List (Nat × Array Value)} {rows : List (Option Addr × Nat × (Nat → Int))} {wx w1 : World} {cs : Array Value} {T : TypeId} (h : LS w E bx rows wx) (g : Grown wx w1) (hu : Blk wx.heap.size cs T w1) : LS w (wx.heap.size :: E) bx rows w1 := by
  have k := h.kp (Kp.of g)
  refine ⟨k.1, fun e he => ?_, fun b hb => ⟨(k.2.2.1 b hb).1, fun he => ?_⟩, fun r hr => ⟨(k.2.2.2 r hr).1, fun e he => ?_⟩⟩
  · rcases List.mem_cons.1 he with rfl | he
    · exact ⟨h.1.2.2.2, Blk.lt hu⟩
    · exact k.2.1 e he
  · rcases List.mem_cons.1 he with e | he
    · have := Blk.lt (h.2.2.1 b hb).1; omega
    · exact (k.2.2.1 b hb).2 he
  · rcases List.mem_cons.1 he with rfl | he
    · exact (h.2.2.2 r hr).1.off (Nat.le_refl _)
    · exact (k.2.2.2 r hr).2 e he
section
variable {w : World} {U V : Nat} {cu cv : Array Value} {tu tv : TypeId} {bx : List (Nat × Array Value)} {rows : List (Option Addr × Nat × (Nat → Int))} {wx w' : World}
theorem TS.kp (h : TS w U V cu tu cv tv bx rows wx) (k : Kp wx w') : TS w U V cu tu cv tv bx rows w' := ⟨Blk.kp h.1 k, Blk.kp h.2.1 k, h.2.2.1, h.2.2.2.kp k⟩
theorem TS.box (h : TS w U V cu tu cv tv bx rows wx) (cs : Array Value) : TS w U V cu tu cv tv ((wx.heap.size, cs) :: bx) rows (wx.alloc (.cells cs 24)) :=
  ⟨Blk.grown h.1 ((Grown.refl _).alloc _ _), Blk.grown h.2.1 ((Grown.refl _).alloc _ _), h.2.2.1, h.2.2.2.box cs⟩
theorem TS.mkU {cu' : Array Value} (h : TS w U V cu tu cv tv bx rows wx) (m : Mk U wx w') (u : Blk U cu' tu w') : TS w U V cu' tu cv tv bx rows w' := ⟨u, Blk.mk h.2.1 m (Ne.symm h.2.2.1), h.2.2.1, h.2.2.2.mk (by simp) m⟩
theorem TS.mkV {cv' : Array Value} (h : TS w U V cu tu cv tv bx rows wx) (m : Mk V wx w') (u : Blk V cv' tv w') : TS w U V cu tu cv' tv bx rows w' := ⟨Blk.mk h.1 m h.2.2.1, u, h.2.2.1, h.2.2.2.mk (by simp) m⟩
theorem TS.toldU {cu' : Array Value} {r c err : Int} {len : Nat} {Z : Nat → Int} {e : Ending} (h : TS w U V cu tu cv tv bx rows wx) (m : MatP r c len Z err (fun w' => Blk U cu' tu w' ∧ Mk U wx w') wx e w') :
    ∃ ao cap B, e = .returned (.tuple #[.agg #[.int .i64 r, .int .i64 c, .slice ao len cap], .int .i64 err]) ∧ len ≤ cap ∧ (len = 0 ∨ (ao = some ⟨B, 0, none⟩ ∧ Blk B (ints len Z) 3 w')) ∧ wx.heap.size ≤ B ∧ TS w U V cu' tu cv tv bx ((ao, len, Z) :: rows) w' := by
  have hx : Blk U cu' tu w' ∧ Mk U wx w' := let ⟨_, _, _, _, _, _, _, x⟩ := m; x
  have t := h.mkU hx.2 hx.1
  obtain ⟨ao, cap, B, h1, h2, h3, h4, h5, _⟩ := h.2.2.2.told t.2.2.2 m
  exact ⟨ao, cap, B, h1, h2, h3, h4, t.1, t.2.1, t.2.2.1, h5⟩
theorem TS.toldV {cv' : Array Value} {r c err : Int} {len : Nat} {Z : Nat → Int} {e : Ending} (h : TS w U V cu tu cv tv bx rows wx) (m : MatP r c len Z err (fun w' => Blk V cv' tv w' ∧ Mk V wx w') wx e w') :
    ∃ ao cap B, e = .returned (.tuple #[.agg #[.int .i64 r, .int .i64 c, .slice ao len cap], .int .i64 err]) ∧ len ≤ cap ∧ (len = 0 ∨ (ao = some ⟨B, 0, none⟩ ∧ Blk B (ints len Z) 3 w')) ∧ wx.heap.size ≤ B ∧ TS w U V cu tu cv' tv bx ((ao, len, Z) :: rows) w' := by
  have hx : Blk V cv' tv w' ∧ Mk V wx w' := let ⟨_, _, _, _, _, _, _, x⟩ := m; x
  have t := h.mkV hx.2 hx.1
  obtain ⟨ao, cap, B, h1, h2, h3, h4, h5, _⟩ := h.2.2.2.told t.2.2.2 m
  exact ⟨ao, cap, B, h1, h2, h3, h4, t.1, t.2.1, t.2.2.1, h5⟩
theorem TS.toldK {r c err : Int} {len : Nat} {Z : Nat → Int} {e : Ending} (h : TS w U V cu tu cv tv bx rows wx) (m : MatP r c len Z err (Kp wx) wx e w') :
    ∃ ao cap B, e = .returned (.tuple #[.agg #[.int .i64 r, .int .i64 c, .slice ao len cap], .int .i64 err]) ∧ len ≤ cap ∧ (len = 0 ∨ (ao = some ⟨B, 0, none⟩ ∧ Blk B (ints len Z) 3 w')) ∧ wx.heap.size ≤ B ∧ TS w U V cu tu cv tv bx ((ao, len, Z) :: rows) w' := by
  have hx : Kp wx w' := let ⟨_, _, _, _, _, _, _, x⟩ := m; x
  have t := h.kp hx
  obtain ⟨ao, cap, B, h1, h2, h3, h4, h5, _⟩ := h.2.2.2.told t.2.2.2 m
  exact ⟨ao, cap, B, h1, h2, h3, h4, t.1, t.2.1, t.2.2.1, h5⟩
theorem TS.congr {ao : Option Addr} {len : Nat} {Z Y : Nat → Int} (h : TS w U V cu tu cv tv bx ((ao, len, Z) :: rows) wx) (hz : ∀ i, i < len → Z i = Y i) : TS w U V cu tu cv tv bx ((ao, len, Y) :: rows) wx := ⟨h.1, h.2.1, h.2.2.1, h.2.2.2.congr hz⟩
/-- The three cells of a matrix. -/
theorem TS.cells (h : TS w U V cu tu cv tv bx rows wx) {b : Nat} {x y z : Value} (hb : (b, #[x, y, z]) ∈ bx) : wx.cell? ⟨b, 0, none⟩ = some x ∧ wx.cell? ⟨b, 1, none⟩ = some y ∧ wx.cell? ⟨b, 2, none⟩ = some z := ⟨h.2.2.2.cell hb 0, h.2.2.2.cell hb 1, h.2.2.2.cell hb 2⟩
theorem TS.lt (h : TS w U V cu tu cv tv bx rows wx) {b : Nat} {cs : Array Value} (hb : (b, cs) ∈ bx) : b < wx.heap.size := h.2.2.2.lt hb
theorem TS.rowU (h : TS w U V cu tu cv tv bx rows wx) {ao : Option Addr} {len : Nat} {Z : Nat → Int} (hr : (ao, len, Z) ∈ rows) : Row wx ao len Z ∧ Off U len ao ∧ Off V len ao :=
  ⟨(h.2.2.2.at hr).1, (h.2.2.2.at hr).2 U (by simp), (h.2.2.2.at hr).2 V (by simp)⟩
end

end Go.Proofs.Ytcobicnpdmgnjaa

/- Package mat: the funcs that Scale and reckon hand on. -/
namespace Go.Proofs.Ytcobicnpdmgnjaa
open Go.RowKit Go.Shelf Go.Proofs.Wd
set_option linter.unusedVariables false
set_option linter.unusedSimpArgs false

theorem pair_rowM (w : World) (x y : Int) : Row (w.alloc (.cells #[.int .i64 x, .int .i64 y] 3)) (some ⟨w.heap.size, 0, none⟩) 2 (pairZ x y) := by
  refine Or.inr ⟨_, 0, rfl, fun i hi => ?_⟩
  rw [Nat.zero_add, Blk.cell (Blk.new w _ _)]
  match i, hi with
  | 0, _ => rfl
  | 1, _ => rfl
theorem addTwoM (U : Nat) (a b : Int) (c : Bool) (n : Int) (bo cap : Nat) (w : World) (ha : I64 a) (hb : I64 b) (hn : 0 ≤ n ∧ n < 2305843009213693952) (h : UC U c n w) (hr : Row w (some ⟨bo, 0, none⟩) 2 (pairZ a b)) (ho : bo ≠ U) :
    Calls Try.prog 53 #[.pointer (some ⟨U, 0, none⟩), .slice (some ⟨bo, 0, none⟩) 2 cap] w fun e w' => e = .returned (.int .i64 (s2N a b)) ∧ UC U (c || s2C a b) (n + 2) w' ∧ Mod U w w' := by
  have := unitAdd U c n (some ⟨bo, 0, none⟩) 2 cap (pairZ a b) hn (by omega) (pairZ_I64 ha hb) w h hr (off_blk ho)
  rw [s2N_th, s2C_th] at this
  exact this
theorem mulTwoM (U : Nat) (a b : Int) (c : Bool) (n : Int) (bo cap : Nat) (w : World) (ha : I64 a) (hb : I64 b) (hn : 0 ≤ n ∧ n < 2305843009213693952) (h : UC U c n w) (hr : Row w (some ⟨bo, 0, none⟩) 2 (pairZ a b)) (ho : bo ≠ U) :
    Calls Try.prog 55 #[.pointer (some ⟨U, 0, none⟩), .slice (some ⟨bo, 0, none⟩) 2 cap] w fun e w' => e = .returned (.int .i64 (m2N a b)) ∧ UC U (c || m2C a b) (n + 2) w' ∧ Mod U w w' := by
  have := unitMul U c n (some ⟨bo, 0, none⟩) 2 cap (pairZ a b) hn (by omega) (pairZ_I64 ha hb) w h hr (off_blk ho)
  rw [m2N_th, m2C_th] at this
  exact this
/-- The k-th of row i: new memory alone. -/
theorem matAtG (r c i k b o cap : Nat) (Z : Nat → Int) (hr : 1 ≤ r ∧ r ≤ 12) (hc : 1 ≤ c ∧ c ≤ 12) (hi : i < r) (hk : k < c) (w : World) (hz : w.cell? ⟨b, o + (i * c + k), none⟩ = some (.int .i64 (Z (i * c + k)))) :
    Calls Try.prog 56 #[.agg #[.int .i64 r, .int .i64 c, .slice (some ⟨b, o, none⟩) (r * c) cap], .int .i64 i, .int .i64 k] w fun e w' => e = .returned (.int .i64 (Z (i * c + k))) ∧ Grown w w' :=
  (matAt r c i k b o cap Z hr hc hi hk w hz).mono fun e w' h => ⟨h.1, by rw [h.2]; exact (Grown.refl _).alloc _ _⟩


set_option maxRecDepth 20000 in
set_option maxHeartbeats 4000000 in
theorem scale1 (U : Nat) (cc : Bool) (nn : Int) (hn : 0 ≤ nn ∧ nn < 2305843009213693952) (r c i k b o cap Bu Ba Bs : Nat) (s : Int) (A : Nat → Int) (hr : 1 ≤ r ∧ r ≤ 12) (hc : 1 ≤ c ∧ c ≤ 12) (hi : i < r) (hk : k < c) (hs : I64 s) (hA : ∀ j, j < r * c → I64 (A j)) (w : World) (h : UC U cc nn w)
    (hBu : Blk Bu #[.pointer (some ⟨U, 0, none⟩)] 41 w) (hBa : Blk Ba #[.int .i64 r, .int .i64 c, .slice (some ⟨b, o, none⟩) (r * c) cap] 24 w) (hBs : Blk Bs #[.int .i64 s] 3 w) (za : ∀ j, j < r * c → w.cell? ⟨b, o + j, none⟩ = some (.int .i64 (A j))) (n1 : Bu ≠ U) (n2 : Ba ≠ U) (n3 : Bs ≠ U) (n4 : b ≠ U) :
    Calls Try.prog 54 #[.int .i64 (i : Int), .int .i64 (k : Int), .pointer (some ⟨Bu, 0, none⟩), .pointer (some ⟨Ba, 0, none⟩), .pointer (some ⟨Bs, 0, none⟩)] w fun e w' => e = .returned (.int .i64 (m2N (A (i * c + k)) s)) ∧ UC U (cc || m2C (A (i * c + k)) s) (nn + 2) w' ∧ Mk U w w' := by
  have hp := place_in i k r c hi hk
  have AT : Hid (∀ wx, Mod U w wx → Calls Try.prog 56 #[.agg #[.int .i64 r, .int .i64 c, .slice (some ⟨b, o, none⟩) (r * c) cap], .int .i64 i, .int .i64 k] wx fun e w' => e = .returned (.int .i64 (A (i * c + k))) ∧ Grown wx w') := fun wx mu => matAtG r c i k b o cap A hr hc hi hk wx (mu.cell (za _ hp) n4)
  have ix := hA _ hp
  obtain ⟨x, hx⟩ : ∃ x, A (i * c + k) = x := ⟨_, rfl⟩
  rw [hx] at AT ix
  rw [hx]
  have ML : Hid (∀ wx bo, bo ≠ U → UC U cc nn wx → Row wx (some ⟨bo, 0, none⟩) 2 (pairZ x s) → Calls Try.prog 55 #[.pointer (some ⟨U, 0, none⟩), .slice (some ⟨bo, 0, none⟩) 2 2] wx fun e w' => e = .returned (.int .i64 (m2N x s)) ∧ UC U (cc || m2C x s) (nn + 2) w' ∧ Mod U wx w') := fun wx bo hb hu hr => mulTwoM U x s cc nn bo 2 wx ix hs hn hu hr hb
  obtain ⟨z, hz⟩ : ∃ z, m2N x s = z := ⟨_, rfl⟩
  rw [hz] at ML
  rw [hz]
  obtain ⟨len, hlen⟩ : ∃ q, r * c = q := ⟨_, rfl⟩
  rw [hlen] at AT hBa
  have CW : Hid (∀ w', Mod U w w' → w'.cell? ⟨Bu, 0, none⟩ = some (.pointer (some ⟨U, 0, none⟩)) ∧ w'.cell? ⟨Ba, 0, none⟩ = some (.int .i64 r) ∧ w'.cell? ⟨Ba, 1, none⟩ = some (.int .i64 c) ∧ w'.cell? ⟨Ba, 2, none⟩ = some (.slice (some ⟨b, o, none⟩) len cap) ∧ w'.cell? ⟨Bs, 0, none⟩ = some (.int .i64 s)) := fun wx mu => ⟨Blk.cell (Blk.keep hBu mu n1) 0, Blk.cell (Blk.keep hBa mu n2) 0, Blk.cell (Blk.keep hBa mu n2) 1, Blk.cell (Blk.keep hBa mu n2) 2, Blk.cell (Blk.keep hBs mu n3) 0⟩
  have H : Hid (UC U cc nn w.drew) := h
  have hU : Hid (U < w.heap.size) := Blk.lt h
  obtain ⟨x1, x2, x3, x4, x5⟩ := unhide CW w (Mod.refl _ _)
  clear h hBu hBa hBs za hA hn hr hc hi hk hs hx hz hlen n1 n2 n3 n4 hp ix
  go_enter Try.func54, Try.ntmps54
  go_wp2
  go_region_held3 (fun w' => w'.cell? ⟨Bu, 0, none⟩ = some (.pointer (some ⟨U, 0, none⟩)) ∧ w'.cell? ⟨Ba, 0, none⟩ = some (.int .i64 r) ∧ w'.cell? ⟨Ba, 1, none⟩ = some (.int .i64 c) ∧ w'.cell? ⟨Ba, 2, none⟩ = some (.slice (some ⟨b, o, none⟩) len cap) ∧ w'.cell? ⟨Bs, 0, none⟩ = some (.int .i64 s))
      (simp [go_sem, *])
      (first
        | (go_at_call 56; refine (unhide AT _ (mod_drew U w)).mono ?_; rintro e w2 ⟨rfl, g2⟩; have M2 : Hid (Mod U w w2) := (mod_drew U w).trans (Mod.of g2); have U2 : Hid (UC U cc nn w2) := Blk.grown (unhide H) g2; obtain ⟨y1, y2, y3, y4, y5⟩ := unhide CW w2 (unhide M2); have j1 := heap_gt y1; have j2 := heap_gt y2; have j3 := heap_gt y5; have M3 : Hid (Mod U w (w2.alloc (.cells #[.int .i64 x, .int .i64 s] 3))) := (unhide M2).trans (Mod.of ((Grown.refl _).alloc _ _)); have U3 : Hid (UC U cc nn (w2.alloc (.cells #[.int .i64 x, .int .i64 s] 3))) := Blk.grown (unhide U2) ((Grown.refl _).alloc _ _); have ne : Hid (w2.heap.size ≠ U) := Nat.ne_of_gt (Blk.lt (unhide U2)); clear g2 AT)
        | (go_at_call 55; refine (unhide ML _ _ (unhide ne) (unhide U3) (pair_rowM w2 x s)).mono ?_; rintro e w4 ⟨rfl, h4, m4⟩; obtain ⟨t1, t2, t3, t4, t5⟩ := unhide CW w4 ((unhide M3).trans m4); have R4 : Hid (UC U (cc || m2C x s) (nn + 2) w4 ∧ Mk U w w4) := ⟨h4, Mk.of ((unhide M3).trans m4)⟩; clear h4 m4 ML))
  go_wp2
  go_ret
  exact ⟨rfl, unhide R4⟩


set_option maxRecDepth 20000 in
set_option maxHeartbeats 4000000 in
theorem reckon1M (U Q F : Nat) (eF : ∀ args w, (callFunc F args).run Try.prog w = .ok (.enter F args) w) (f : Int → Int → Int) (g : Int → Int → Bool) (d : Int) (cc : Bool) (nn : Int) (r c i k b o cap b2 o2 cap2 Bo Ba Bb : Nat) (A B : Nat → Int) (hr : 1 ≤ r ∧ r ≤ 12) (hc : 1 ≤ c ∧ c ≤ 12) (hi : i < r) (hk : k < c) (w : World) (h : UC U cc nn w)
    (C : ∀ wx bo, bo ≠ U → UC U cc nn wx → Mod U w wx → Row wx (some ⟨bo, 0, none⟩) 2 (pairZ (A (i * c + k)) (B (i * c + k))) → Calls Try.prog F #[.pointer (some ⟨U, 0, none⟩), .slice (some ⟨bo, 0, none⟩) 2 2] wx fun e w' => e = .returned (.int .i64 (f (A (i * c + k)) (B (i * c + k)))) ∧ UC U (cc || g (A (i * c + k)) (B (i * c + k))) (nn + d) w' ∧ Mod U wx w')
    (hBo : Blk Bo #[.func (.func F) #[.pointer (some ⟨U, 0, none⟩)] #[]] 76 w) (hBa : Blk Ba #[.int .i64 r, .int .i64 c, .slice (some ⟨b, o, none⟩) (r * c) cap] 24 w) (hBb : Blk Bb #[.int .i64 r, .int .i64 c, .slice (some ⟨b2, o2, none⟩) (r * c) cap2] 24 w) (za : ∀ j, j < r * c → w.cell? ⟨b, o + j, none⟩ = some (.int .i64 (A j))) (zb : ∀ j, j < r * c → w.cell? ⟨b2, o2 + j, none⟩ = some (.int .i64 (B j))) (n1 : Bo ≠ U) (n2 : Ba ≠ U) (n3 : Bb ≠ U) (n4 : b ≠ U) (n5 : b2 ≠ U) :
    Calls Try.prog 65 #[.int .i64 (i : Int), .int .i64 (k : Int), .pointer (some ⟨Bo, 0, none⟩), .pointer (some ⟨Ba, 0, none⟩), .pointer (some ⟨Bb, 0, none⟩)] w fun e w' => e = .returned (.int .i64 (f (A (i * c + k)) (B (i * c + k)))) ∧ UC U (cc || g (A (i * c + k)) (B (i * c + k))) (nn + d) w' ∧ Mk U w w' := by
  have hp := place_in i k r c hi hk
  have AT : Hid (∀ wx, Mod U w wx → Calls Try.prog 56 #[.agg #[.int .i64 r, .int .i64 c, .slice (some ⟨b, o, none⟩) (r * c) cap], .int .i64 i, .int .i64 k] wx fun e w' => e = .returned (.int .i64 (A (i * c + k))) ∧ Grown wx w') := fun wx mu => matAtG r c i k b o cap A hr hc hi hk wx (mu.cell (za _ hp) n4)
  have AT2 : Hid (∀ wx, Mod U w wx → Calls Try.prog 56 #[.agg #[.int .i64 r, .int .i64 c, .slice (some ⟨b2, o2, none⟩) (r * c) cap2], .int .i64 i, .int .i64 k] wx fun e w' => e = .returned (.int .i64 (B (i * c + k))) ∧ Grown wx w') := fun wx mu => matAtG r c i k b2 o2 cap2 B hr hc hi hk wx (mu.cell (zb _ hp) n5)
  have OP := hide C
  obtain ⟨x, hx⟩ : ∃ x, A (i * c + k) = x := ⟨_, rfl⟩
  obtain ⟨y, hy⟩ : ∃ y, B (i * c + k) = y := ⟨_, rfl⟩
  rw [hx] at AT
  rw [hy] at AT2
  rw [hx, hy] at OP
  rw [hx, hy]
  obtain ⟨z, hz⟩ : ∃ z, f x y = z := ⟨_, rfl⟩
  rw [hz] at OP
  rw [hz]
  obtain ⟨len, hlen⟩ : ∃ q, r * c = q := ⟨_, rfl⟩
  rw [hlen] at AT AT2 hBa hBb
  have CW : Hid (∀ w', Mod U w w' → w'.cell? ⟨Bo, 0, none⟩ = some (.func (.func F) #[.pointer (some ⟨U, 0, none⟩)] #[]) ∧ w'.cell? ⟨Ba, 0, none⟩ = some (.int .i64 r) ∧ w'.cell? ⟨Ba, 1, none⟩ = some (.int .i64 c) ∧ w'.cell? ⟨Ba, 2, none⟩ = some (.slice (some ⟨b, o, none⟩) len cap) ∧ w'.cell? ⟨Bb, 0, none⟩ = some (.int .i64 r) ∧ w'.cell? ⟨Bb, 1, none⟩ = some (.int .i64 c) ∧ w'.cell? ⟨Bb, 2, none⟩ = some (.slice (some ⟨b2, o2, none⟩) len cap2)) := fun wx mu => ⟨Blk.cell (Blk.keep hBo mu n1) 0, Blk.cell (Blk.keep hBa mu n2) 0, Blk.cell (Blk.keep hBa mu n2) 1, Blk.cell (Blk.keep hBa mu n2) 2, Blk.cell (Blk.keep hBb mu n3) 0, Blk.cell (Blk.keep hBb mu n3) 1, Blk.cell (Blk.keep hBb mu n3) 2⟩
  have H : Hid (UC U cc nn w.drew) := h
  obtain ⟨x1, x2, x3, x4, x5, x6, x7⟩ := unhide CW w (Mod.refl _ _)
  clear h hBo hBa hBb za zb hr hc hi hk hx hy hz hlen n1 n2 n3 n4 n5 hp C
  go_enter Try.func65, Try.ntmps65
  go_wp2
  go_region_held3 (fun w' => w'.cell? ⟨Bo, 0, none⟩ = some (.func (.func F) #[.pointer (some ⟨U, 0, none⟩)] #[]) ∧ w'.cell? ⟨Ba, 0, none⟩ = some (.int .i64 r) ∧ w'.cell? ⟨Ba, 1, none⟩ = some (.int .i64 c) ∧ w'.cell? ⟨Ba, 2, none⟩ = some (.slice (some ⟨b, o, none⟩) len cap) ∧ w'.cell? ⟨Bb, 0, none⟩ = some (.int .i64 r) ∧ w'.cell? ⟨Bb, 1, none⟩ = some (.int .i64 c) ∧ w'.cell? ⟨Bb, 2, none⟩ = some (.slice (some ⟨b2, o2, none⟩) len cap2))
      (simp [go_sem, *])
      (first
        | (go_at_call 56; refine (unhide AT _ (mod_drew U w)).mono ?_; clear AT; rintro e w2 ⟨rfl, g2⟩; have M2 : Hid (Mod U w w2) := (mod_drew U w).trans (Mod.of g2); have U2 : Hid (UC U cc nn w2) := Blk.grown (unhide H) g2; obtain ⟨y1, y2, y3, y4, y5, y6, y7⟩ := unhide CW w2 (unhide M2); clear g2)
        | (go_at_call 56; refine (unhide AT2 _ (unhide M2)).mono ?_; clear AT2; rintro e w3 ⟨rfl, g3⟩; have M3 : Hid (Mod U w w3) := (unhide M2).trans (Mod.of g3); have U3 : Hid (UC U cc nn w3) := Blk.grown (unhide U2) g3; obtain ⟨v1, v2, v3, v4, v5, v6, v7⟩ := unhide CW w3 (unhide M3); have j1 := heap_gt v1; have j2 := heap_gt v2; have j3 := heap_gt v5; have M4 : Hid (Mod U w (w3.alloc (.cells #[.int .i64 x, .int .i64 y] 3))) := (unhide M3).trans (Mod.of ((Grown.refl _).alloc _ _)); have U4 : Hid (UC U cc nn (w3.alloc (.cells #[.int .i64 x, .int .i64 y] 3))) := Blk.grown (unhide U3) ((Grown.refl _).alloc _ _); have ne : Hid (w3.heap.size ≠ U) := Nat.ne_of_gt (Blk.lt (unhide U3)); clear g3)
        | (refine (unhide OP _ _ (unhide ne) (unhide U4) (unhide M4) (pair_rowM w3 x y)).mono ?_; rintro e w5 ⟨rfl, h5, m5⟩; obtain ⟨t1, t2, t3, t4, t5, t6, t7⟩ := unhide CW w5 ((unhide M4).trans m5); have R4 : Hid (UC U (cc || g x y) (nn + d) w5 ∧ Mk U w w5) := ⟨h5, Mk.of ((unhide M4).trans m5)⟩; clear h5 m5 OP))
  go_wp2
  go_ret
  exact ⟨rfl, unhide R4⟩


set_option maxRecDepth 20000 in
set_option maxHeartbeats 4000000 in
theorem reckon1P (U Q F : Nat) (eF : ∀ args w, (callFunc F args).run Try.prog w = .ok (.enter F args) w) (f : Int → Int → Int) (g : Int → Int → Bool) (d : Int) (cc : Bool) (nn : Int) (r c i k b o cap b2 o2 cap2 Bo Ba Bb : Nat) (A B : Nat → Int) (hr : 1 ≤ r ∧ r ≤ 12) (hc : 1 ≤ c ∧ c ≤ 12) (hi : i < r) (hk : k < c) (w : World) (h : UC U cc nn w)
    (C : ∀ wx bo, bo ≠ U → UC U cc nn wx → Mod U w wx → Row wx (some ⟨bo, 0, none⟩) 2 (pairZ (A (i * c + k)) (B (i * c + k))) → Calls Try.prog F #[.slice (some ⟨bo, 0, none⟩) 2 2, .pointer (some ⟨Q, 0, none⟩)] wx fun e w' => e = .returned (.int .i64 (f (A (i * c + k)) (B (i * c + k)))) ∧ UC U (cc || g (A (i * c + k)) (B (i * c + k))) (nn + d) w' ∧ Mod U wx w')
    (hBo : Blk Bo #[.func (.func F) #[] #[.pointer (some ⟨Q, 0, none⟩)]] 76 w) (hBa : Blk Ba #[.int .i64 r, .int .i64 c, .slice (some ⟨b, o, none⟩) (r * c) cap] 24 w) (hBb : Blk Bb #[.int .i64 r, .int .i64 c, .slice (some ⟨b2, o2, none⟩) (r * c) cap2] 24 w) (za : ∀ j, j < r * c → w.cell? ⟨b, o + j, none⟩ = some (.int .i64 (A j))) (zb : ∀ j, j < r * c → w.cell? ⟨b2, o2 + j, none⟩ = some (.int .i64 (B j))) (n1 : Bo ≠ U) (n2 : Ba ≠ U) (n3 : Bb ≠ U) (n4 : b ≠ U) (n5 : b2 ≠ U) :
    Calls Try.prog 65 #[.int .i64 (i : Int), .int .i64 (k : Int), .pointer (some ⟨Bo, 0, none⟩), .pointer (some ⟨Ba, 0, none⟩), .pointer (some ⟨Bb, 0, none⟩)] w fun e w' => e = .returned (.int .i64 (f (A (i * c + k)) (B (i * c + k)))) ∧ UC U (cc || g (A (i * c + k)) (B (i * c + k))) (nn + d) w' ∧ Mk U w w' := by
  have hp := place_in i k r c hi hk
  have AT : Hid (∀ wx, Mod U w wx → Calls Try.prog 56 #[.agg #[.int .i64 r, .int .i64 c, .slice (some ⟨b, o, none⟩) (r * c) cap], .int .i64 i, .int .i64 k] wx fun e w' => e = .returned (.int .i64 (A (i * c + k))) ∧ Grown wx w') := fun wx mu => matAtG r c i k b o cap A hr hc hi hk wx (mu.cell (za _ hp) n4)
  have AT2 : Hid (∀ wx, Mod U w wx → Calls Try.prog 56 #[.agg #[.int .i64 r, .int .i64 c, .slice (some ⟨b2, o2, none⟩) (r * c) cap2], .int .i64 i, .int .i64 k] wx fun e w' => e = .returned (.int .i64 (B (i * c + k))) ∧ Grown wx w') := fun wx mu => matAtG r c i k b2 o2 cap2 B hr hc hi hk wx (mu.cell (zb _ hp) n5)
  have OP := hide C
  obtain ⟨x, hx⟩ : ∃ x, A (i * c + k) = x := ⟨_, rfl⟩
  obtain ⟨y, hy⟩ : ∃ y, B (i * c + k) = y := ⟨_, rfl⟩
  rw [hx] at AT
  rw [hy] at AT2
  rw [hx, hy] at OP
  rw [hx, hy]
  obtain ⟨z, hz⟩ : ∃ z, f x y = z := ⟨_, rfl⟩
  rw [hz] at OP
  rw [hz]
  obtain ⟨len, hlen⟩ : ∃ q, r * c = q := ⟨_, rfl⟩
  rw [hlen] at AT AT2 hBa hBb
  have CW : Hid (∀ w', Mod U w w' → w'.cell? ⟨Bo, 0, none⟩ = some (.func (.func F) #[] #[.pointer (some ⟨Q, 0, none⟩)]) ∧ w'.cell? ⟨Ba, 0, none⟩ = some (.int .i64 r) ∧ w'.cell? ⟨Ba, 1, none⟩ = some (.int .i64 c) ∧ w'.cell? ⟨Ba, 2, none⟩ = some (.slice (some ⟨b, o, none⟩) len cap) ∧ w'.cell? ⟨Bb, 0, none⟩ = some (.int .i64 r) ∧ w'.cell? ⟨Bb, 1, none⟩ = some (.int .i64 c) ∧ w'.cell? ⟨Bb, 2, none⟩ = some (.slice (some ⟨b2, o2, none⟩) len cap2)) := fun wx mu => ⟨Blk.cell (Blk.keep hBo mu n1) 0, Blk.cell (Blk.keep hBa mu n2) 0, Blk.cell (Blk.keep hBa mu n2) 1, Blk.cell (Blk.keep hBa mu n2) 2, Blk.cell (Blk.keep hBb mu n3) 0, Blk.cell (Blk.keep hBb mu n3) 1, Blk.cell (Blk.keep hBb mu n3) 2⟩
  have H : Hid (UC U cc nn w.drew) := h
  obtain ⟨x1, x2, x3, x4, x5, x6, x7⟩ := unhide CW w (Mod.refl _ _)
  clear h hBo hBa hBb za zb hr hc hi hk hx hy hz hlen n1 n2 n3 n4 n5 hp C
  go_enter Try.func65, Try.ntmps65
  go_wp2
  go_region_held3 (fun w' => w'.cell? ⟨Bo, 0, none⟩ = some (.func (.func F) #[] #[.pointer (some ⟨Q, 0, none⟩)]) ∧ w'.cell? ⟨Ba, 0, none⟩ = some (.int .i64 r) ∧ w'.cell? ⟨Ba, 1, none⟩ = some (.int .i64 c) ∧ w'.cell? ⟨Ba, 2, none⟩ = some (.slice (some ⟨b, o, none⟩) len cap) ∧ w'.cell? ⟨Bb, 0, none⟩ = some (.int .i64 r) ∧ w'.cell? ⟨Bb, 1, none⟩ = some (.int .i64 c) ∧ w'.cell? ⟨Bb, 2, none⟩ = some (.slice (some ⟨b2, o2, none⟩) len cap2))
      (simp [go_sem, *])
      (first
        | (go_at_call 56; refine (unhide AT _ (mod_drew U w)).mono ?_; clear AT; rintro e w2 ⟨rfl, g2⟩; have M2 : Hid (Mod U w w2) := (mod_drew U w).trans (Mod.of g2); have U2 : Hid (UC U cc nn w2) := Blk.grown (unhide H) g2; obtain ⟨y1, y2, y3, y4, y5, y6, y7⟩ := unhide CW w2 (unhide M2); clear g2)
        | (go_at_call 56; refine (unhide AT2 _ (unhide M2)).mono ?_; clear AT2; rintro e w3 ⟨rfl, g3⟩; have M3 : Hid (Mod U w w3) := (unhide M2).trans (Mod.of g3); have U3 : Hid (UC U cc nn w3) := Blk.grown (unhide U2) g3; obtain ⟨v1, v2, v3, v4, v5, v6, v7⟩ := unhide CW w3 (unhide M3); have j1 := heap_gt v1; have j2 := heap_gt v2; have j3 := heap_gt v5; have M4 : Hid (Mod U w (w3.alloc (.cells #[.int .i64 x, .int .i64 y] 3))) := (unhide M3).trans (Mod.of ((Grown.refl _).alloc _ _)); have U4 : Hid (UC U cc nn (w3.alloc (.cells #[.int .i64 x, .int .i64 y] 3))) := Blk.grown (unhide U3) ((Grown.refl _).alloc _ _); have ne : Hid (w3.heap.size ≠ U) := Nat.ne_of_gt (Blk.lt (unhide U3)); clear g3)
        | (refine (unhide OP _ _ (unhide ne) (unhide U4) (unhide M4) (pair_rowM w3 x y)).mono ?_; rintro e w5 ⟨rfl, h5, m5⟩; obtain ⟨t1, t2, t3, t4, t5, t6, t7⟩ := unhide CW w5 ((unhide M4).trans m5); have R4 : Hid (UC U (cc || g x y) (nn + d) w5 ∧ Mk U w w5) := ⟨h5, Mk.of ((unhide M4).trans m5)⟩; clear h5 m5 OP))
  go_wp2
  go_ret
  exact ⟨rfl, unhide R4⟩


set_option maxRecDepth 20000 in
set_option maxHeartbeats 4000000 in
theorem less1 (U Q bo : Nat) (x y : Int) (hx : I64 x) (hy : I64 y) (cc : Bool) (nn : Int) (hn : 0 ≤ nn ∧ nn < 2305843009213693952) (w : World) (h : UC U cc nn w) (hQ : Blk Q #[.pointer (some ⟨U, 0, none⟩)] 41 w) (nq : Q ≠ U) (nb : bo ≠ U) (hr : Row w (some ⟨bo, 0, none⟩) 2 (pairZ x y)) :
    Calls Try.prog 57 #[.slice (some ⟨bo, 0, none⟩) 2 2, .pointer (some ⟨Q, 0, none⟩)] w fun e w' => e = .returned (.int .i64 (subN x y)) ∧ UC U (cc || subC x y) (nn + 1) w' ∧ Mod U w w' := by
  obtain ⟨b', o', e, c0⟩ := hr.at (k := 0) (by omega)
  cases e
  obtain ⟨b', o', e, c1⟩ := hr.at (k := 1) (by omega)
  cases e
  rw [Nat.zero_add] at c0 c1
  have d0 : w.cell? ⟨bo, 0, none⟩ = some (.int .i64 x) := c0
  have d1 : w.cell? ⟨bo, 1, none⟩ = some (.int .i64 y) := c1
  have d2 : w.cell? ⟨Q, 0, none⟩ = some (.pointer (some ⟨U, 0, none⟩)) := Blk.cell hQ 0
  have SB := hide (unitSub U cc nn x y hx hy hn w.drew h)
  have CW : Hid (∀ w', Mod U w w' → w'.cell? ⟨Q, 0, none⟩ = some (.pointer (some ⟨U, 0, none⟩)) ∧ w'.cell? ⟨bo, 0, none⟩ = some (.int .i64 x) ∧ w'.cell? ⟨bo, 1, none⟩ = some (.int .i64 y)) := fun wx mu => ⟨Blk.cell (Blk.keep hQ mu nq) 0, mu.cell d0 nb, mu.cell d1 nb⟩
  generalize subN x y = z at *
  clear c0 c1 hr h hQ hx hy hn
  go_enter Try.func57, Try.ntmps57
  go_wp2
  go_region_held3 (fun w' => w'.cell? ⟨Q, 0, none⟩ = some (.pointer (some ⟨U, 0, none⟩)) ∧ w'.cell? ⟨bo, 0, none⟩ = some (.int .i64 x) ∧ w'.cell? ⟨bo, 1, none⟩ = some (.int .i64 y))
      (simp [go_sem, *])
      (first
        | (go_at_call 58; refine (unhide SB).mono ?_; rintro e w4 ⟨rfl, h4, m4⟩; have m5 : Mod U w w4 := (mod_drew U w).trans m4; obtain ⟨t1, t2, t3⟩ := unhide CW w4 m5; have R4 := hide (And.intro h4 m5); clear h4 m4 m5 SB))
  go_wp2
  go_ret
  exact ⟨rfl, unhide R4⟩


end Go.Proofs.Ytcobicnpdmgnjaa

/- Package mat: reckon, Sum, Less, Scale. -/
namespace Go.Proofs.Ytcobicnpdmgnjaa
open Go.RowKit Go.Shelf Go.Proofs.Wd
set_option linter.unusedVariables false
set_option linter.unusedSimpArgs false


set_option maxHeartbeats 2000000 in
theorem matReckonM (U Q F : Nat) (eF : ∀ args w, (callFunc F args).run Try.prog w = .ok (.enter F args) w) (f : Int → Int → Int) (g : Int → Int → Bool) (d : Int) (hd : 0 ≤ d ∧ d ≤ 1000) (I : World → Prop) (hI : ∀ a b, I a → Mk U a b → I b) (c0 : Bool) (n0 : Int) (hn : 0 ≤ n0 ∧ n0 < 1152921504606846976) (r c b o cap b2 o2 cap2 : Nat) (A B : Nat → Int) (hr : 1 ≤ r ∧ r ≤ 12) (hc : 1 ≤ c ∧ c ≤ 12)
    (hA : ∀ j, j < r * c → I64 (A j)) (hB : ∀ j, j < r * c → I64 (B j)) (w : World) (h : UC U c0 n0 w) (iw : I w)
    (C : ∀ cc nn x y wx bo, I64 x → I64 y → 0 ≤ nn ∧ nn < 2305843009213693952 → bo ≠ U → UC U cc nn wx → I wx → Row wx (some ⟨bo, 0, none⟩) 2 (pairZ x y) → Calls Try.prog F #[.pointer (some ⟨U, 0, none⟩), .slice (some ⟨bo, 0, none⟩) 2 2] wx fun e w' => e = .returned (.int .i64 (f x y)) ∧ UC U (cc || g x y) (nn + d) w' ∧ Mod U wx w')
    (za : ∀ j, j < r * c → w.cell? ⟨b, o + j, none⟩ = some (.int .i64 (A j))) (zb : ∀ j, j < r * c → w.cell? ⟨b2, o2 + j, none⟩ = some (.int .i64 (B j))) (n4 : b ≠ U) (n5 : b2 ≠ U) :
    Calls Try.prog 52 #[.pointer (some ⟨U, 0, none⟩), .agg #[.int .i64 r, .int .i64 c, .slice (some ⟨b, o, none⟩) (r * c) cap], .agg #[.int .i64 r, .int .i64 c, .slice (some ⟨b2, o2, none⟩) (r * c) cap2], .func (.func F) #[.pointer (some ⟨U, 0, none⟩)] #[]] w fun e w' => MatP r c (r * c) (fun p => f (A p) (B p)) 0 (fun w' => UC U (c0 || orC (fun p => g (A p) (B p)) (r * c)) (n0 + d * ((r * c : Nat) : Int)) w' ∧ Mk U w w') w e w' := by
  have hlt := Blk.lt h
  obtain ⟨G, s5, ba, bb, bo, br, bx⟩ := alloc5 w #[.int .i64 r, .int .i64 c, .slice (some ⟨b, o, none⟩) (r * c) cap] 24 #[.int .i64 r, .int .i64 c, .slice (some ⟨b2, o2, none⟩) (r * c) cap2] 24 #[.func (.func F) #[.pointer (some ⟨U, 0, none⟩)] #[]] 76 #[.int .i64 0, .int .i64 0, .slice none 0 0] 24 #[.int .i64 r, .int .i64 c, .slice (some ⟨b, o, none⟩) (r * c) cap, .int .i64 r, .int .i64 c, .slice (some ⟨b2, o2, none⟩) (r * c) cap2] 24
  have ok : okM r c (r * c) := ⟨by omega, by omega, by rw [Int.natCast_mul]⟩
  have RF := hide (refuse2 U c0 n0 ⟨hn.1, by omega⟩ r c (some ⟨b, o, none⟩) (r * c) cap r c (some ⟨b2, o2, none⟩) (r * c) cap2 (w.heap.size + 1 + 1 + 1 + 1) 0 (Or.inl ⟨⟨ok, ok⟩, rfl⟩) _ (Blk.grown h G) bx (by omega))
  have MD : Hid (∀ wx, Mk U w wx → UC U c0 n0 wx → Blk w.heap.size #[.int .i64 r, .int .i64 c, .slice (some ⟨b, o, none⟩) (r * c) cap] 24 wx → Blk (w.heap.size + 1) #[.int .i64 r, .int .i64 c, .slice (some ⟨b2, o2, none⟩) (r * c) cap2] 24 wx → Blk (w.heap.size + 1 + 1) #[.func (.func F) #[.pointer (some ⟨U, 0, none⟩)] #[]] 76 wx →
      Calls Try.prog 41 #[.int .i64 r, .int .i64 c, .func (.func 65) #[] #[.pointer (some ⟨w.heap.size + 1 + 1, 0, none⟩), .pointer (some ⟨w.heap.size, 0, none⟩), .pointer (some ⟨w.heap.size + 1, 0, none⟩)]] wx fun e w' => MadeP r c (fun p => f (A p) (B p)) (fun w' => UC U (c0 || orC (fun p => g (A p) (B p)) (r * c)) (n0 + d * ((r * c : Nat) : Int)) w' ∧ Mk U wx w') wx e w') := by
    intro wx mx ux xa xb xo
    refine madeU U c0 n0 d hd (fun p => g (A p) (B p)) 65 (enters_of Try.func65 (by kernel_rfl) rfl) _ r c hr hc (fun p => f (A p) (B p)) wx hn ux (fun cc nn i k a hi hk hnn ua ma => ?_)
    exact reckon1M U Q F eF f g d cc nn r c i k b o cap b2 o2 cap2 (w.heap.size + 1 + 1) w.heap.size (w.heap.size + 1) A B hr hc hi hk a ua
      (fun wy bo hbo hu my hrow => C cc nn _ _ wy bo (hA _ (place_in _ _ _ _ hi hk)) (hB _ (place_in _ _ _ _ hi hk)) hnn hbo hu (hI _ _ iw ((mx.trans ma).trans (Mk.of my))) hrow)
      (Blk.mk xo ma (by omega)) (Blk.mk xa ma (by omega)) (Blk.mk xb ma (by omega)) (fun j hj => ma.cell (mx.cell (za j hj) n4) n4) (fun j hj => ma.cell (mx.cell (zb j hj) n5) n5) (by omega) (by omega) (by omega) n4 n5
  have HB := hide (And.intro ba (And.intro bb (And.intro bo br)))
  have HG := hide (And.intro G (And.intro s5 hlt))
  obtain ⟨len, hlen⟩ : ∃ q, r * c = q := ⟨_, rfl⟩
  simp only [hlen] at RF HG HB MD
  rw [hlen]
  have HL := hide hlen
  clear G s5 ba bb bo br bx h hlt za zb hA hB hr hc hlen n4 n5 hn ok C hI iw
  go_enter Try.func52, Try.ntmps52
  go_wp2_with fail
  generalize (((((w.alloc (.cells #[.int .i64 r, .int .i64 c, .slice (some ⟨b, o, none⟩) len cap] 24)).alloc (.cells #[.int .i64 r, .int .i64 c, .slice (some ⟨b2, o2, none⟩) len cap2] 24)).alloc (.cells #[.func (.func F) #[.pointer (some ⟨U, 0, none⟩)] #[]] 76)).alloc (.cells #[.int .i64 0, .int .i64 0, .slice none 0 0] 24)).alloc (.cells #[.int .i64 r, .int .i64 c, .slice (some ⟨b, o, none⟩) len cap, .int .i64 r, .int .i64 c, .slice (some ⟨b2, o2, none⟩) len cap2] 24)) = w1 at *
  refine (unhide RF).mono ?_
  rintro e w2 ⟨rfl, u2, m2⟩
  have M2 : Hid (Mk U w w2) := Mk.of ((Mod.of (unhide HG).1).trans m2)
  have Z2 : Hid (w.heap.size + 1 + 1 + 1 + 1 + 1 ≤ w2.heap.size) := by have := (unhide HG).2.1; have := m2.2.2.2.2; show _ ≤ _; omega
  obtain ⟨ba, bb, bo, br⟩ := unhide HB
  have lU : Hid (U < w.heap.size) := (unhide HG).2.2
  have ba2 := Blk.keep ba m2 (by have := unhide lU; omega)
  have bb2 := Blk.keep bb m2 (by have := unhide lU; omega)
  have bo2 := Blk.keep bo m2 (by have := unhide lU; omega)
  have br2 := Blk.keep br m2 (by have := unhide lU; omega)
  have p0 : w2.cell? ⟨w.heap.size, 0, none⟩ = some (.int .i64 r) := Blk.cell ba2 0
  have p1 : w2.cell? ⟨w.heap.size, 1, none⟩ = some (.int .i64 c) := Blk.cell ba2 1
  have q0 : w2.cell? ⟨w.heap.size + 1, 0, none⟩ = some (.int .i64 r) := Blk.cell bb2 0
  have q1 : w2.cell? ⟨w.heap.size + 1, 1, none⟩ = some (.int .i64 c) := Blk.cell bb2 1
  have M4 := hide (unhide MD w2 (unhide M2) u2 ba2 bb2 bo2)
  have HR := hide br2
  clear ba bb bo br ba2 bb2 bo2 br2 u2 m2 RF HB MD
  go_wp2_with fail
  refine (unhide M4).mono ?_
  rintro e w5 ⟨Lb, h1, rfl, h3, u5, mk5⟩
  have b3 : Blk (w.heap.size + 1 + 1 + 1) #[.int .i64 0, .int .i64 0, .slice none 0 0] 24 w5 := Blk.mk (unhide HR) mk5 (by have := unhide lU; omega)
  have e0 : w5.cell? ⟨w.heap.size + 1 + 1 + 1, 0, none⟩ = some (.int .i64 0) := Blk.cell b3 0
  have e1 : w5.cell? ⟨w.heap.size + 1 + 1 + 1, 1, none⟩ = some (.int .i64 0) := Blk.cell b3 1
  have e2 : w5.cell? ⟨w.heap.size + 1 + 1 + 1, 2, none⟩ = some (.slice none 0 0) := Blk.cell b3 2
  have f := Blk.free b3
  have R := hide (And.intro b3 (And.intro h1 (And.intro h3 (And.intro u5 mk5))))
  clear b3 h1 h3 u5 mk5 M4 p0 p1 q0 q1
  go_wp2
  obtain ⟨b3, h1, h3, u5, mk5⟩ := unhide R
  have P := putM b3 (.int .i64 r) (.int .i64 c) (.slice (some ⟨Lb, 0, none⟩) (r * c) (r * c))
  generalize (((w5.setCell ⟨w.heap.size + 1 + 1 + 1, 0, none⟩ (.int .i64 r)).setCell ⟨w.heap.size + 1 + 1 + 1, 1, none⟩ (.int .i64 c)).setCell ⟨w.heap.size + 1 + 1 + 1, 2, none⟩ (.slice (some ⟨Lb, 0, none⟩) (r * c) (r * c))) = wE at *
  have c0 : wE.cell? ⟨w.heap.size + 1 + 1 + 1, 0, none⟩ = some (.int .i64 r) := Blk.cell P.1 0
  have c1 : wE.cell? ⟨w.heap.size + 1 + 1 + 1, 1, none⟩ = some (.int .i64 c) := Blk.cell P.1 1
  have c2 : wE.cell? ⟨w.heap.size + 1 + 1 + 1, 2, none⟩ = some (.slice (some ⟨Lb, 0, none⟩) (r * c) (r * c)) := Blk.cell P.1 2
  refine bodyPost_ret (v := .tuple #[.agg #[.int .i64 r, .int .i64 c, .slice (some ⟨Lb, 0, none⟩) (r * c) (r * c)], .int .i64 0]) (by simp [results, Try.results52, go_sem, c0, c1, c2]) rfl ?_
  have hz := unhide Z2
  have hu := unhide lU
  have mw := unhide M2
  have hl' := unhide HL
  subst hl'
  exact ⟨_, _, Lb, rfl, by omega, Or.inr ⟨rfl, Blk.keep h3 P.2 (by omega)⟩, Nat.le_refl _, Blk.keep u5 P.2 (by omega), (mw.trans mk5).new P.2 (by omega)⟩


set_option maxHeartbeats 2000000 in
theorem matReckonP (U Q F : Nat) (eF : ∀ args w, (callFunc F args).run Try.prog w = .ok (.enter F args) w) (f : Int → Int → Int) (g : Int → Int → Bool) (d : Int) (hd : 0 ≤ d ∧ d ≤ 1000) (I : World → Prop) (hI : ∀ a b, I a → Mk U a b → I b) (c0 : Bool) (n0 : Int) (hn : 0 ≤ n0 ∧ n0 < 1152921504606846976) (r c b o cap b2 o2 cap2 : Nat) (A B : Nat → Int) (hr : 1 ≤ r ∧ r ≤ 12) (hc : 1 ≤ c ∧ c ≤ 12)
    (hA : ∀ j, j < r * c → I64 (A j)) (hB : ∀ j, j < r * c → I64 (B j)) (w : World) (h : UC U c0 n0 w) (iw : I w)
    (C : ∀ cc nn x y wx bo, I64 x → I64 y → 0 ≤ nn ∧ nn < 2305843009213693952 → bo ≠ U → UC U cc nn wx → I wx → Row wx (some ⟨bo, 0, none⟩) 2 (pairZ x y) → Calls Try.prog F #[.slice (some ⟨bo, 0, none⟩) 2 2, .pointer (some ⟨Q, 0, none⟩)] wx fun e w' => e = .returned (.int .i64 (f x y)) ∧ UC U (cc || g x y) (nn + d) w' ∧ Mod U wx w')
    (za : ∀ j, j < r * c → w.cell? ⟨b, o + j, none⟩ = some (.int .i64 (A j))) (zb : ∀ j, j < r * c → w.cell? ⟨b2, o2 + j, none⟩ = some (.int .i64 (B j))) (n4 : b ≠ U) (n5 : b2 ≠ U) :
    Calls Try.prog 52 #[.pointer (some ⟨U, 0, none⟩), .agg #[.int .i64 r, .int .i64 c, .slice (some ⟨b, o, none⟩) (r * c) cap], .agg #[.int .i64 r, .int .i64 c, .slice (some ⟨b2, o2, none⟩) (r * c) cap2], .func (.func F) #[] #[.pointer (some ⟨Q, 0, none⟩)]] w fun e w' => MatP r c (r * c) (fun p => f (A p) (B p)) 0 (fun w' => UC U (c0 || orC (fun p => g (A p) (B p)) (r * c)) (n0 + d * ((r * c : Nat) : Int)) w' ∧ Mk U w w') w e w' := by
  have hlt := Blk.lt h
  obtain ⟨G, s5, ba, bb, bo, br, bx⟩ := alloc5 w #[.int .i64 r, .int .i64 c, .slice (some ⟨b, o, none⟩) (r * c) cap] 24 #[.int .i64 r, .int .i64 c, .slice (some ⟨b2, o2, none⟩) (r * c) cap2] 24 #[.func (.func F) #[] #[.pointer (some ⟨Q, 0, none⟩)]] 76 #[.int .i64 0, .int .i64 0, .slice none 0 0] 24 #[.int .i64 r, .int .i64 c, .slice (some ⟨b, o, none⟩) (r * c) cap, .int .i64 r, .int .i64 c, .slice (some ⟨b2, o2, none⟩) (r * c) cap2] 24
  have ok : okM r c (r * c) := ⟨by omega, by omega, by rw [Int.natCast_mul]⟩
  have RF := hide (refuse2 U c0 n0 ⟨hn.1, by omega⟩ r c (some ⟨b, o, none⟩) (r * c) cap r c (some ⟨b2, o2, none⟩) (r * c) cap2 (w.heap.size + 1 + 1 + 1 + 1) 0 (Or.inl ⟨⟨ok, ok⟩, rfl⟩) _ (Blk.grown h G) bx (by omega))
  have MD : Hid (∀ wx, Mk U w wx → UC U c0 n0 wx → Blk w.heap.size #[.int .i64 r, .int .i64 c, .slice (some ⟨b, o, none⟩) (r * c) cap] 24 wx → Blk (w.heap.size + 1) #[.int .i64 r, .int .i64 c, .slice (some ⟨b2, o2, none⟩) (r * c) cap2] 24 wx → Blk (w.heap.size + 1 + 1) #[.func (.func F) #[] #[.pointer (some ⟨Q, 0, none⟩)]] 76 wx →
      Calls Try.prog 41 #[.int .i64 r, .int .i64 c, .func (.func 65) #[] #[.pointer (some ⟨w.heap.size + 1 + 1, 0, none⟩), .pointer (some ⟨w.heap.size, 0, none⟩), .pointer (some ⟨w.heap.size + 1, 0, none⟩)]] wx fun e w' => MadeP r c (fun p => f (A p) (B p)) (fun w' => UC U (c0 || orC (fun p => g (A p) (B p)) (r * c)) (n0 + d * ((r * c : Nat) : Int)) w' ∧ Mk U wx w') wx e w') := by
    intro wx mx ux xa xb xo
    refine madeU U c0 n0 d hd (fun p => g (A p) (B p)) 65 (enters_of Try.func65 (by kernel_rfl) rfl) _ r c hr hc (fun p => f (A p) (B p)) wx hn ux (fun cc nn i k a hi hk hnn ua ma => ?_)
    exact reckon1P U Q F eF f g d cc nn r c i k b o cap b2 o2 cap2 (w.heap.size + 1 + 1) w.heap.size (w.heap.size + 1) A B hr hc hi hk a ua
      (fun wy bo hbo hu my hrow => C cc nn _ _ wy bo (hA _ (place_in _ _ _ _ hi hk)) (hB _ (place_in _ _ _ _ hi hk)) hnn hbo hu (hI _ _ iw ((mx.trans ma).trans (Mk.of my))) hrow)
      (Blk.mk xo ma (by omega)) (Blk.mk xa ma (by omega)) (Blk.mk xb ma (by omega)) (fun j hj => ma.cell (mx.cell (za j hj) n4) n4) (fun j hj => ma.cell (mx.cell (zb j hj) n5) n5) (by omega) (by omega) (by omega) n4 n5
  have HB := hide (And.intro ba (And.intro bb (And.intro bo br)))
  have HG := hide (And.intro G (And.intro s5 hlt))
  obtain ⟨len, hlen⟩ : ∃ q, r * c = q := ⟨_, rfl⟩
  simp only [hlen] at RF HG HB MD
  rw [hlen]
  have HL := hide hlen
  clear G s5 ba bb bo br bx h hlt za zb hA hB hr hc hlen n4 n5 hn ok C hI iw
  go_enter Try.func52, Try.ntmps52
  go_wp2_with fail
  generalize (((((w.alloc (.cells #[.int .i64 r, .int .i64 c, .slice (some ⟨b, o, none⟩) len cap] 24)).alloc (.cells #[.int .i64 r, .int .i64 c, .slice (some ⟨b2, o2, none⟩) len cap2] 24)).alloc (.cells #[.func (.func F) #[] #[.pointer (some ⟨Q, 0, none⟩)]] 76)).alloc (.cells #[.int .i64 0, .int .i64 0, .slice none 0 0] 24)).alloc (.cells #[.int .i64 r, .int .i64 c, .slice (some ⟨b, o, none⟩) len cap, .int .i64 r, .int .i64 c, .slice (some ⟨b2, o2, none⟩) len cap2] 24)) = w1 at *
  refine (unhide RF).mono ?_
  rintro e w2 ⟨rfl, u2, m2⟩
  have M2 : Hid (Mk U w w2) := Mk.of ((Mod.of (unhide HG).1).trans m2)
  have Z2 : Hid (w.heap.size + 1 + 1 + 1 + 1 + 1 ≤ w2.heap.size) := by have := (unhide HG).2.1; have := m2.2.2.2.2; show _ ≤ _; omega
  obtain ⟨ba, bb, bo, br⟩ := unhide HB
  have lU : Hid (U < w.heap.size) := (unhide HG).2.2
  have ba2 := Blk.keep ba m2 (by have := unhide lU; omega)
  have bb2 := Blk.keep bb m2 (by have := unhide lU; omega)
  have bo2 := Blk.keep bo m2 (by have := unhide lU; omega)
  have br2 := Blk.keep br m2 (by have := unhide lU; omega)
  have p0 : w2.cell? ⟨w.heap.size, 0, none⟩ = some (.int .i64 r) := Blk.cell ba2 0
  have p1 : w2.cell? ⟨w.heap.size, 1, none⟩ = some (.int .i64 c) := Blk.cell ba2 1
  have q0 : w2.cell? ⟨w.heap.size + 1, 0, none⟩ = some (.int .i64 r) := Blk.cell bb2 0
  have q1 : w2.cell? ⟨w.heap.size + 1, 1, none⟩ = some (.int .i64 c) := Blk.cell bb2 1
  have M4 := hide (unhide MD w2 (unhide M2) u2 ba2 bb2 bo2)
  have HR := hide br2
  clear ba bb bo br ba2 bb2 bo2 br2 u2 m2 RF HB MD
  go_wp2_with fail
  refine (unhide M4).mono ?_
  rintro e w5 ⟨Lb, h1, rfl, h3, u5, mk5⟩
  have b3 : Blk (w.heap.size + 1 + 1 + 1) #[.int .i64 0, .int .i64 0, .slice none 0 0] 24 w5 := Blk.mk (unhide HR) mk5 (by have := unhide lU; omega)
  have e0 : w5.cell? ⟨w.heap.size + 1 + 1 + 1, 0, none⟩ = some (.int .i64 0) := Blk.cell b3 0
  have e1 : w5.cell? ⟨w.heap.size + 1 + 1 + 1, 1, none⟩ = some (.int .i64 0) := Blk.cell b3 1
  have e2 : w5.cell? ⟨w.heap.size + 1 + 1 + 1, 2, none⟩ = some (.slice none 0 0) := Blk.cell b3 2
  have f := Blk.free b3
  have R := hide (And.intro b3 (And.intro h1 (And.intro h3 (And.intro u5 mk5))))
  clear b3 h1 h3 u5 mk5 M4 p0 p1 q0 q1
  go_wp2
  obtain ⟨b3, h1, h3, u5, mk5⟩ := unhide R
  have P := putM b3 (.int .i64 r) (.int .i64 c) (.slice (some ⟨Lb, 0, none⟩) (r * c) (r * c))
  generalize (((w5.setCell ⟨w.heap.size + 1 + 1 + 1, 0, none⟩ (.int .i64 r)).setCell ⟨w.heap.size + 1 + 1 + 1, 1, none⟩ (.int .i64 c)).setCell ⟨w.heap.size + 1 + 1 + 1, 2, none⟩ (.slice (some ⟨Lb, 0, none⟩) (r * c) (r * c))) = wE at *
  have c0 : wE.cell? ⟨w.heap.size + 1 + 1 + 1, 0, none⟩ = some (.int .i64 r) := Blk.cell P.1 0
  have c1 : wE.cell? ⟨w.heap.size + 1 + 1 + 1, 1, none⟩ = some (.int .i64 c) := Blk.cell P.1 1
  have c2 : wE.cell? ⟨w.heap.size + 1 + 1 + 1, 2, none⟩ = some (.slice (some ⟨Lb, 0, none⟩) (r * c) (r * c)) := Blk.cell P.1 2
  refine bodyPost_ret (v := .tuple #[.agg #[.int .i64 r, .int .i64 c, .slice (some ⟨Lb, 0, none⟩) (r * c) (r * c)], .int .i64 0]) (by simp [results, Try.results52, go_sem, c0, c1, c2]) rfl ?_
  have hz := unhide Z2
  have hu := unhide lU
  have mw := unhide M2
  have hl' := unhide HL
  subst hl'
  exact ⟨_, _, Lb, rfl, by omega, Or.inr ⟨rfl, Blk.keep h3 P.2 (by omega)⟩, Nat.le_refl _, Blk.keep u5 P.2 (by omega), (mw.trans mk5).new P.2 (by omega)⟩


set_option maxHeartbeats 2000000 in
theorem matReckonM_bad (U Q F : Nat) (c0 : Bool) (n0 : Int) (hn : 0 ≤ n0 ∧ n0 < 1152921504606846976) (R1 C1 R2 C2 : Int) (a1 a2 : Option Addr) (l1 p1 l2 p2 : Nat) (Z : Nat → Int) (hb : ¬ (okM R1 C1 l1 ∧ okM R2 C2 l2 ∧ R1 = R2 ∧ C1 = C2)) (w : World) (h : UC U c0 n0 w) :
    Calls Try.prog 52 #[.pointer (some ⟨U, 0, none⟩), .agg #[.int .i64 R1, .int .i64 C1, .slice a1 l1 p1], .agg #[.int .i64 R2, .int .i64 C2, .slice a2 l2 p2], .func (.func F) #[.pointer (some ⟨U, 0, none⟩)] #[]] w fun e w' => MatP 0 0 0 Z 3 (fun w' => UC U c0 n0 w' ∧ Mk U w w') w e w' := by
  have hlt := Blk.lt h
  obtain ⟨G, s5, ba, bb, bo, br, bx⟩ := alloc5 w #[.int .i64 R1, .int .i64 C1, .slice a1 l1 p1] 24 #[.int .i64 R2, .int .i64 C2, .slice a2 l2 p2] 24 #[.func (.func F) #[.pointer (some ⟨U, 0, none⟩)] #[]] 76 #[.int .i64 0, .int .i64 0, .slice none 0 0] 24 #[.int .i64 R1, .int .i64 C1, .slice a1 l1 p1, .int .i64 R2, .int .i64 C2, .slice a2 l2 p2] 24
  have hu := Blk.grown h G
  have lU : Hid (U < w.heap.size) := hlt
  have HB := hide (And.intro ba (And.intro bb br))
  have HG := hide G
  by_cases ho : okM R1 C1 l1 ∧ okM R2 C2 l2
  · have RF := hide (refuse2 U c0 n0 ⟨hn.1, by omega⟩ R1 C1 a1 l1 p1 R2 C2 a2 l2 p2 (w.heap.size + 1 + 1 + 1 + 1) 0 (Or.inl ⟨ho, rfl⟩) _ hu bx (by omega))
    have hne : (R1 != R2) = true ∨ ((R1 != R2) = false ∧ (C1 != C2) = true) := by
      by_cases e1 : R1 = R2
      · refine Or.inr ⟨by simpa using e1, ?_⟩
        simpa using (fun e2 => hb ⟨ho.1, ho.2, e1, e2⟩)
      · exact Or.inl (by simpa using e1)
    clear G s5 ba bb bo br bx h hu hlt hb ho hn
    go_enter Try.func52, Try.ntmps52
    go_wp2_with fail
    generalize (((((w.alloc (.cells #[.int .i64 R1, .int .i64 C1, .slice a1 l1 p1] 24)).alloc (.cells #[.int .i64 R2, .int .i64 C2, .slice a2 l2 p2] 24)).alloc (.cells #[.func (.func F) #[.pointer (some ⟨U, 0, none⟩)] #[]] 76)).alloc (.cells #[.int .i64 0, .int .i64 0, .slice none 0 0] 24)).alloc (.cells #[.int .i64 R1, .int .i64 C1, .slice a1 l1 p1, .int .i64 R2, .int .i64 C2, .slice a2 l2 p2] 24)) = w1 at *
    refine (unhide RF).mono ?_
    rintro e w2 ⟨rfl, u2, m2⟩
    have b3 := Blk.keep (unhide HB).2.2 m2 (by have := unhide lU; omega)
    have x0 : w2.cell? ⟨w.heap.size, 0, none⟩ = some (.int .i64 R1) := Blk.cell (Blk.keep (unhide HB).1 m2 (by have := unhide lU; omega)) 0
    have x1 : w2.cell? ⟨w.heap.size, 1, none⟩ = some (.int .i64 C1) := Blk.cell (Blk.keep (unhide HB).1 m2 (by have := unhide lU; omega)) 1
    have y0 : w2.cell? ⟨w.heap.size + 1, 0, none⟩ = some (.int .i64 R2) := Blk.cell (Blk.keep (unhide HB).2.1 m2 (by have := unhide lU; omega)) 0
    have y1 : w2.cell? ⟨w.heap.size + 1, 1, none⟩ = some (.int .i64 C2) := Blk.cell (Blk.keep (unhide HB).2.1 m2 (by have := unhide lU; omega)) 1
    have e0 : w2.cell? ⟨w.heap.size + 1 + 1 + 1, 0, none⟩ = some (.int .i64 0) := Blk.cell b3 0
    have e1 : w2.cell? ⟨w.heap.size + 1 + 1 + 1, 1, none⟩ = some (.int .i64 0) := Blk.cell b3 1
    have e2 : w2.cell? ⟨w.heap.size + 1 + 1 + 1, 2, none⟩ = some (.slice none 0 0) := Blk.cell b3 2
    have f := Blk.free b3
    have R := hide (And.intro b3 (And.intro u2 (Mk.of ((Mod.of (unhide HG)).trans m2))))
    clear b3 u2 m2 RF
    rcases hne with hne | ⟨he, hne⟩
    · go_wp2
      obtain ⟨b3, u2, m2⟩ := unhide R
      have P := putM b3 (.int .i64 0) (.int .i64 0) (.slice none 0 0)
      generalize (((w2.setCell ⟨w.heap.size + 1 + 1 + 1, 0, none⟩ (.int .i64 0)).setCell ⟨w.heap.size + 1 + 1 + 1, 1, none⟩ (.int .i64 0)).setCell ⟨w.heap.size + 1 + 1 + 1, 2, none⟩ (.slice none 0 0)) = wE at *
      have c0 : wE.cell? ⟨w.heap.size + 1 + 1 + 1, 0, none⟩ = some (.int .i64 0) := Blk.cell P.1 0
      have c1 : wE.cell? ⟨w.heap.size + 1 + 1 + 1, 1, none⟩ = some (.int .i64 0) := Blk.cell P.1 1
      have c2 : wE.cell? ⟨w.heap.size + 1 + 1 + 1, 2, none⟩ = some (.slice none 0 0) := Blk.cell P.1 2
      refine bodyPost_ret (v := .tuple #[.agg #[.int .i64 0, .int .i64 0, .slice none 0 0], .int .i64 3]) (by simp [results, Try.results52, go_sem, c0, c1, c2]) rfl ?_
      exact ⟨none, 0, w.heap.size, rfl, Nat.le_refl _, Or.inl rfl, Nat.le_refl _, Blk.keep u2 P.2 (by have := unhide lU; omega), m2.new P.2 (by omega)⟩
    · go_wp2
      obtain ⟨b3, u2, m2⟩ := unhide R
      have P := putM b3 (.int .i64 0) (.int .i64 0) (.slice none 0 0)
      generalize (((w2.setCell ⟨w.heap.size + 1 + 1 + 1, 0, none⟩ (.int .i64 0)).setCell ⟨w.heap.size + 1 + 1 + 1, 1, none⟩ (.int .i64 0)).setCell ⟨w.heap.size + 1 + 1 + 1, 2, none⟩ (.slice none 0 0)) = wE at *
      have c0 : wE.cell? ⟨w.heap.size + 1 + 1 + 1, 0, none⟩ = some (.int .i64 0) := Blk.cell P.1 0
      have c1 : wE.cell? ⟨w.heap.size + 1 + 1 + 1, 1, none⟩ = some (.int .i64 0) := Blk.cell P.1 1
      have c2 : wE.cell? ⟨w.heap.size + 1 + 1 + 1, 2, none⟩ = some (.slice none 0 0) := Blk.cell P.1 2
      refine bodyPost_ret (v := .tuple #[.agg #[.int .i64 0, .int .i64 0, .slice none 0 0], .int .i64 3]) (by simp [results, Try.results52, go_sem, c0, c1, c2]) rfl ?_
      exact ⟨none, 0, w.heap.size, rfl, Nat.le_refl _, Or.inl rfl, Nat.le_refl _, Blk.keep u2 P.2 (by have := unhide lU; omega), m2.new P.2 (by omega)⟩
  · have RF := hide (refuse2 U c0 n0 ⟨hn.1, by omega⟩ R1 C1 a1 l1 p1 R2 C2 a2 l2 p2 (w.heap.size + 1 + 1 + 1 + 1) 3 (Or.inr ⟨ho, rfl⟩) _ hu bx (by omega))
    clear G s5 ba bb bo br bx h hu hlt hb ho hn
    go_enter Try.func52, Try.ntmps52
    go_wp2_with fail
    generalize (((((w.alloc (.cells #[.int .i64 R1, .int .i64 C1, .slice a1 l1 p1] 24)).alloc (.cells #[.int .i64 R2, .int .i64 C2, .slice a2 l2 p2] 24)).alloc (.cells #[.func (.func F) #[.pointer (some ⟨U, 0, none⟩)] #[]] 76)).alloc (.cells #[.int .i64 0, .int .i64 0, .slice none 0 0] 24)).alloc (.cells #[.int .i64 R1, .int .i64 C1, .slice a1 l1 p1, .int .i64 R2, .int .i64 C2, .slice a2 l2 p2] 24)) = w1 at *
    refine (unhide RF).mono ?_
    rintro e w2 ⟨rfl, u2, m2⟩
    have b3 := Blk.keep (unhide HB).2.2 m2 (by have := unhide lU; omega)
    have e0 : w2.cell? ⟨w.heap.size + 1 + 1 + 1, 0, none⟩ = some (.int .i64 0) := Blk.cell b3 0
    have e1 : w2.cell? ⟨w.heap.size + 1 + 1 + 1, 1, none⟩ = some (.int .i64 0) := Blk.cell b3 1
    have e2 : w2.cell? ⟨w.heap.size + 1 + 1 + 1, 2, none⟩ = some (.slice none 0 0) := Blk.cell b3 2
    have f := Blk.free b3
    have R := hide (And.intro b3 (And.intro u2 (Mk.of ((Mod.of (unhide HG)).trans m2))))
    clear b3 u2 m2 RF
    go_wp2
    obtain ⟨b3, u2, m2⟩ := unhide R
    have P := putM b3 (.int .i64 0) (.int .i64 0) (.slice none 0 0)
    generalize (((w2.setCell ⟨w.heap.size + 1 + 1 + 1, 0, none⟩ (.int .i64 0)).setCell ⟨w.heap.size + 1 + 1 + 1, 1, none⟩ (.int .i64 0)).setCell ⟨w.heap.size + 1 + 1 + 1, 2, none⟩ (.slice none 0 0)) = wE at *
    have c0 : wE.cell? ⟨w.heap.size + 1 + 1 + 1, 0, none⟩ = some (.int .i64 0) := Blk.cell P.1 0
    have c1 : wE.cell? ⟨w.heap.size + 1 + 1 + 1, 1, none⟩ = some (.int .i64 0) := Blk.cell P.1 1
    have c2 : wE.cell? ⟨w.heap.size + 1 + 1 + 1, 2, none⟩ = some (.slice none 0 0) := Blk.cell P.1 2
    refine bodyPost_ret (v := .tuple #[.agg #[.int .i64 0, .int .i64 0, .slice none 0 0], .int .i64 3]) (by simp [results, Try.results52, go_sem, c0, c1, c2]) rfl ?_
    exact ⟨none, 0, w.heap.size, rfl, Nat.le_refl _, Or.inl rfl, Nat.le_refl _, Blk.keep u2 P.2 (by have := unhide lU; omega), m2.new P.2 (by omega)⟩

set_option maxHeartbeats 2000000 in
theorem matReckonM_none (p : Option Addr) (Q F : Nat) (R1 C1 R2 C2 : Int) (a1 a2 : Option Addr) (l1 p1 l2 p2 : Nat) (Z : Nat → Int) (w : World) (h : NU p w) :
    Calls Try.prog 52 #[.pointer p, .agg #[.int .i64 R1, .int .i64 C1, .slice a1 l1 p1], .agg #[.int .i64 R2, .int .i64 C2, .slice a2 l2 p2], .func (.func F) #[.pointer p] #[]] w fun e w' => MatP 0 0 0 Z 1 (Kp w) w e w' := by
  obtain ⟨G, s5, ba, bb, bo, br, bx⟩ := alloc5 w #[.int .i64 R1, .int .i64 C1, .slice a1 l1 p1] 24 #[.int .i64 R2, .int .i64 C2, .slice a2 l2 p2] 24 #[.func (.func F) #[.pointer p] #[]] 76 #[.int .i64 0, .int .i64 0, .slice none 0 0] 24 #[.int .i64 R1, .int .i64 C1, .slice a1 l1 p1, .int .i64 R2, .int .i64 C2, .slice a2 l2 p2] 24
  have HB := hide br
  have HG := hide G
  have RF := hide (fun s => refuseNone p s _ (h.grown G))
  clear G s5 ba bb bo br bx h
  go_enter Try.func52, Try.ntmps52
  go_wp2_with fail
  generalize (((((w.alloc (.cells #[.int .i64 R1, .int .i64 C1, .slice a1 l1 p1] 24)).alloc (.cells #[.int .i64 R2, .int .i64 C2, .slice a2 l2 p2] 24)).alloc (.cells #[.func (.func F) #[.pointer p] #[]] 76)).alloc (.cells #[.int .i64 0, .int .i64 0, .slice none 0 0] 24)).alloc (.cells #[.int .i64 R1, .int .i64 C1, .slice a1 l1 p1, .int .i64 R2, .int .i64 C2, .slice a2 l2 p2] 24)) = w1 at *
  refine (unhide RF _).mono ?_
  rintro e w2 ⟨rfl, rfl⟩
  have e0 : w2.cell? ⟨w.heap.size + 1 + 1 + 1, 0, none⟩ = some (.int .i64 0) := Blk.cell (unhide HB) 0
  have e1 : w2.cell? ⟨w.heap.size + 1 + 1 + 1, 1, none⟩ = some (.int .i64 0) := Blk.cell (unhide HB) 1
  have e2 : w2.cell? ⟨w.heap.size + 1 + 1 + 1, 2, none⟩ = some (.slice none 0 0) := Blk.cell (unhide HB) 2
  have f := Blk.free (unhide HB)
  clear RF
  go_wp2
  have b3 := unhide HB
  have P := putM b3 (.int .i64 0) (.int .i64 0) (.slice none 0 0)
  generalize (((w2.setCell ⟨w.heap.size + 1 + 1 + 1, 0, none⟩ (.int .i64 0)).setCell ⟨w.heap.size + 1 + 1 + 1, 1, none⟩ (.int .i64 0)).setCell ⟨w.heap.size + 1 + 1 + 1, 2, none⟩ (.slice none 0 0)) = wE at *
  have c0 : wE.cell? ⟨w.heap.size + 1 + 1 + 1, 0, none⟩ = some (.int .i64 0) := Blk.cell P.1 0
  have c1 : wE.cell? ⟨w.heap.size + 1 + 1 + 1, 1, none⟩ = some (.int .i64 0) := Blk.cell P.1 1
  have c2 : wE.cell? ⟨w.heap.size + 1 + 1 + 1, 2, none⟩ = some (.slice none 0 0) := Blk.cell P.1 2
  refine bodyPost_ret (v := .tuple #[.agg #[.int .i64 0, .int .i64 0, .slice none 0 0], .int .i64 1]) (by simp [results, Try.results52, go_sem, c0, c1, c2]) rfl ?_
  exact ⟨none, 0, w.heap.size, rfl, Nat.le_refl _, Or.inl rfl, Nat.le_refl _, (Kp.of (unhide HG)).mod P.2 (by omega)⟩


set_option maxHeartbeats 2000000 in
theorem matReckonP_bad (U Q F : Nat) (c0 : Bool) (n0 : Int) (hn : 0 ≤ n0 ∧ n0 < 1152921504606846976) (R1 C1 R2 C2 : Int) (a1 a2 : Option Addr) (l1 p1 l2 p2 : Nat) (Z : Nat → Int) (hb : ¬ (okM R1 C1 l1 ∧ okM R2 C2 l2 ∧ R1 = R2 ∧ C1 = C2)) (w : World) (h : UC U c0 n0 w) :
    Calls Try.prog 52 #[.pointer (some ⟨U, 0, none⟩), .agg #[.int .i64 R1, .int .i64 C1, .slice a1 l1 p1], .agg #[.int .i64 R2, .int .i64 C2, .slice a2 l2 p2], .func (.func F) #[] #[.pointer (some ⟨Q, 0, none⟩)]] w fun e w' => MatP 0 0 0 Z 3 (fun w' => UC U c0 n0 w' ∧ Mk U w w') w e w' := by
  have hlt := Blk.lt h
  obtain ⟨G, s5, ba, bb, bo, br, bx⟩ := alloc5 w #[.int .i64 R1, .int .i64 C1, .slice a1 l1 p1] 24 #[.int .i64 R2, .int .i64 C2, .slice a2 l2 p2] 24 #[.func (.func F) #[] #[.pointer (some ⟨Q, 0, none⟩)]] 76 #[.int .i64 0, .int .i64 0, .slice none 0 0] 24 #[.int .i64 R1, .int .i64 C1, .slice a1 l1 p1, .int .i64 R2, .int .i64 C2, .slice a2 l2 p2] 24
  have hu := Blk.grown h G
  have lU : Hid (U < w.heap.size) := hlt
  have HB := hide (And.intro ba (And.intro bb br))
  have HG := hide G
  by_cases ho : okM R1 C1 l1 ∧ okM R2 C2 l2
  · have RF := hide (refuse2 U c0 n0 ⟨hn.1, by omega⟩ R1 C1 a1 l1 p1 R2 C2 a2 l2 p2 (w.heap.size + 1 + 1 + 1 + 1) 0 (Or.inl ⟨ho, rfl⟩) _ hu bx (by omega))
    have hne : (R1 != R2) = true ∨ ((R1 != R2) = false ∧ (C1 != C2) = true) := by
      by_cases e1 : R1 = R2
      · refine Or.inr ⟨by simpa using e1, ?_⟩
        simpa using (fun e2 => hb ⟨ho.1, ho.2, e1, e2⟩)
      · exact Or.inl (by simpa using e1)
    clear G s5 ba bb bo br bx h hu hlt hb ho hn
    go_enter Try.func52, Try.ntmps52
    go_wp2_with fail
    generalize (((((w.alloc (.cells #[.int .i64 R1, .int .i64 C1, .slice a1 l1 p1] 24)).alloc (.cells #[.int .i64 R2, .int .i64 C2, .slice a2 l2 p2] 24)).alloc (.cells #[.func (.func F) #[] #[.pointer (some ⟨Q, 0, none⟩)]] 76)).alloc (.cells #[.int .i64 0, .int .i64 0, .slice none 0 0] 24)).alloc (.cells #[.int .i64 R1, .int .i64 C1, .slice a1 l1 p1, .int .i64 R2, .int .i64 C2, .slice a2 l2 p2] 24)) = w1 at *
    refine (unhide RF).mono ?_
    rintro e w2 ⟨rfl, u2, m2⟩
    have b3 := Blk.keep (unhide HB).2.2 m2 (by have := unhide lU; omega)
    have x0 : w2.cell? ⟨w.heap.size, 0, none⟩ = some (.int .i64 R1) := Blk.cell (Blk.keep (unhide HB).1 m2 (by have := unhide lU; omega)) 0
    have x1 : w2.cell? ⟨w.heap.size, 1, none⟩ = some (.int .i64 C1) := Blk.cell (Blk.keep (unhide HB).1 m2 (by have := unhide lU; omega)) 1
    have y0 : w2.cell? ⟨w.heap.size + 1, 0, none⟩ = some (.int .i64 R2) := Blk.cell (Blk.keep (unhide HB).2.1 m2 (by have := unhide lU; omega)) 0
    have y1 : w2.cell? ⟨w.heap.size + 1, 1, none⟩ = some (.int .i64 C2) := Blk.cell (Blk.keep (unhide HB).2.1 m2 (by have := unhide lU; omega)) 1
    have e0 : w2.cell? ⟨w.heap.size + 1 + 1 + 1, 0, none⟩ = some (.int .i64 0) := Blk.cell b3 0
    have e1 : w2.cell? ⟨w.heap.size + 1 + 1 + 1, 1, none⟩ = some (.int .i64 0) := Blk.cell b3 1
    have e2 : w2.cell? ⟨w.heap.size + 1 + 1 + 1, 2, none⟩ = some (.slice none 0 0) := Blk.cell b3 2
    have f := Blk.free b3
    have R := hide (And.intro b3 (And.intro u2 (Mk.of ((Mod.of (unhide HG)).trans m2))))
    clear b3 u2 m2 RF
    rcases hne with hne | ⟨he, hne⟩
    · go_wp2
      obtain ⟨b3, u2, m2⟩ := unhide R
      have P := putM b3 (.int .i64 0) (.int .i64 0) (.slice none 0 0)
      generalize (((w2.setCell ⟨w.heap.size + 1 + 1 + 1, 0, none⟩ (.int .i64 0)).setCell ⟨w.heap.size + 1 + 1 + 1, 1, none⟩ (.int .i64 0)).setCell ⟨w.heap.size + 1 + 1 + 1, 2, none⟩ (.slice none 0 0)) = wE at *
      have c0 : wE.cell? ⟨w.heap.size + 1 + 1 + 1, 0, none⟩ = some (.int .i64 0) := Blk.cell P.1 0
      have c1 : wE.cell? ⟨w.heap.size + 1 + 1 + 1, 1, none⟩ = some (.int .i64 0) := Blk.cell P.1 1
      have c2 : wE.cell? ⟨w.heap.size + 1 + 1 + 1, 2, none⟩ = some (.slice none 0 0) := Blk.cell P.1 2
      refine bodyPost_ret (v := .tuple #[.agg #[.int .i64 0, .int .i64 0, .slice none 0 0], .int .i64 3]) (by simp [results, Try.results52, go_sem, c0, c1, c2]) rfl ?_
      exact ⟨none, 0, w.heap.size, rfl, Nat.le_refl _, Or.inl rfl, Nat.le_refl _, Blk.keep u2 P.2 (by have := unhide lU; omega), m2.new P.2 (by omega)⟩
    · go_wp2
      obtain ⟨b3, u2, m2⟩ := unhide R
      have P := putM b3 (.int .i64 0) (.int .i64 0) (.slice none 0 0)
      generalize (((w2.setCell ⟨w.heap.size + 1 + 1 + 1, 0, none⟩ (.int .i64 0)).setCell ⟨w.heap.size + 1 + 1 + 1, 1, none⟩ (.int .i64 0)).setCell ⟨w.heap.size + 1 + 1 + 1, 2, none⟩ (.slice none 0 0)) = wE at *
      have c0 : wE.cell? ⟨w.heap.size + 1 + 1 + 1, 0, none⟩ = some (.int .i64 0) := Blk.cell P.1 0
      have c1 : wE.cell? ⟨w.heap.size + 1 + 1 + 1, 1, none⟩ = some (.int .i64 0) := Blk.cell P.1 1
      have c2 : wE.cell? ⟨w.heap.size + 1 + 1 + 1, 2, none⟩ = some (.slice none 0 0) := Blk.cell P.1 2
      refine bodyPost_ret (v := .tuple #[.agg #[.int .i64 0, .int .i64 0, .slice none 0 0], .int .i64 3]) (by simp [results, Try.results52, go_sem, c0, c1, c2]) rfl ?_
      exact ⟨none, 0, w.heap.size, rfl, Nat.le_refl _, Or.inl rfl, Nat.le_refl _, Blk.keep u2 P.2 (by have := unhide lU; omega), m2.new P.2 (by omega)⟩
  · have RF := hide (refuse2 U c0 n0 ⟨hn.1, by omega⟩ R1 C1 a1 l1 p1 R2 C2 a2 l2 p2 (w.heap.size + 1 + 1 + 1 + 1) 3 (Or.inr ⟨ho, rfl⟩) _ hu bx (by omega))
    clear G s5 ba bb bo br bx h hu hlt hb ho hn
    go_enter Try.func52, Try.ntmps52
    go_wp2_with fail
    generalize (((((w.alloc (.cells #[.int .i64 R1, .int .i64 C1, .slice a1 l1 p1] 24)).alloc (.cells #[.int .i64 R2, .int .i64 C2, .slice a2 l2 p2] 24)).alloc (.cells #[.func (.func F) #[] #[.pointer (some ⟨Q, 0, none⟩)]] 76)).alloc (.cells #[.int .i64 0, .int .i64 0, .slice none 0 0] 24)).alloc (.cells #[.int .i64 R1, .int .i64 C1, .slice a1 l1 p1, .int .i64 R2, .int .i64 C2, .slice a2 l2 p2] 24)) = w1 at *
    refine (unhide RF).mono ?_
    rintro e w2 ⟨rfl, u2, m2⟩
    have b3 := Blk.keep (unhide HB).2.2 m2 (by have := unhide lU; omega)
    have e0 : w2.cell? ⟨w.heap.size + 1 + 1 + 1, 0, none⟩ = some (.int .i64 0) := Blk.cell b3 0
    have e1 : w2.cell? ⟨w.heap.size + 1 + 1 + 1, 1, none⟩ = some (.int .i64 0) := Blk.cell b3 1
    have e2 : w2.cell? ⟨w.heap.size + 1 + 1 + 1, 2, none⟩ = some (.slice none 0 0) := Blk.cell b3 2
    have f := Blk.free b3
    have R := hide (And.intro b3 (And.intro u2 (Mk.of ((Mod.of (unhide HG)).trans m2))))
    clear b3 u2 m2 RF
    go_wp2
    obtain ⟨b3, u2, m2⟩ := unhide R
    have P := putM b3 (.int .i64 0) (.int .i64 0) (.slice none 0 0)
    generalize (((w2.setCell ⟨w.heap.size + 1 + 1 + 1, 0, none⟩ (.int .i64 0)).setCell ⟨w.heap.size + 1 + 1 + 1, 1, none⟩ (.int .i64 0)).setCell ⟨w.heap.size + 1 + 1 + 1, 2, none⟩ (.slice none 0 0)) = wE at *
    have c0 : wE.cell? ⟨w.heap.size + 1 + 1 + 1, 0, none⟩ = some (.int .i64 0) := Blk.cell P.1 0
    have c1 : wE.cell? ⟨w.heap.size + 1 + 1 + 1, 1, none⟩ = some (.int .i64 0) := Blk.cell P.1 1
    have c2 : wE.cell? ⟨w.heap.size + 1 + 1 + 1, 2, none⟩ = some (.slice none 0 0) := Blk.cell P.1 2
    refine bodyPost_ret (v := .tuple #[.agg #[.int .i64 0, .int .i64 0, .slice none 0 0], .int .i64 3]) (by simp [results, Try.results52, go_sem, c0, c1, c2]) rfl ?_
    exact ⟨none, 0, w.heap.size, rfl, Nat.le_refl _, Or.inl rfl, Nat.le_refl _, Blk.keep u2 P.2 (by have := unhide lU; omega), m2.new P.2 (by omega)⟩

set_option maxHeartbeats 2000000 in
theorem matReckonP_none (p : Option Addr) (Q F : Nat) (R1 C1 R2 C2 : Int) (a1 a2 : Option Addr) (l1 p1 l2 p2 : Nat) (Z : Nat → Int) (w : World) (h : NU p w) :
    Calls Try.prog 52 #[.pointer p, .agg #[.int .i64 R1, .int .i64 C1, .slice a1 l1 p1], .agg #[.int .i64 R2, .int .i64 C2, .slice a2 l2 p2], .func (.func F) #[] #[.pointer (some ⟨Q, 0, none⟩)]] w fun e w' => MatP 0 0 0 Z 1 (Kp w) w e w' := by
  obtain ⟨G, s5, ba, bb, bo, br, bx⟩ := alloc5 w #[.int .i64 R1, .int .i64 C1, .slice a1 l1 p1] 24 #[.int .i64 R2, .int .i64 C2, .slice a2 l2 p2] 24 #[.func (.func F) #[] #[.pointer (some ⟨Q, 0, none⟩)]] 76 #[.int .i64 0, .int .i64 0, .slice none 0 0] 24 #[.int .i64 R1, .int .i64 C1, .slice a1 l1 p1, .int .i64 R2, .int .i64 C2, .slice a2 l2 p2] 24
  have HB := hide br
  have HG := hide G
  have RF := hide (fun s => refuseNone p s _ (h.grown G))
  clear G s5 ba bb bo br bx h
  go_enter Try.func52, Try.ntmps52
  go_wp2_with fail
  generalize (((((w.alloc (.cells #[.int .i64 R1, .int .i64 C1, .slice a1 l1 p1] 24)).alloc (.cells #[.int .i64 R2, .int .i64 C2, .slice a2 l2 p2] 24)).alloc (.cells #[.func (.func F) #[] #[.pointer (some ⟨Q, 0, none⟩)]] 76)).alloc (.cells #[.int .i64 0, .int .i64 0, .slice none 0 0] 24)).alloc (.cells #[.int .i64 R1, .int .i64 C1, .slice a1 l1 p1, .int .i64 R2, .int .i64 C2, .slice a2 l2 p2] 24)) = w1 at *
  refine (unhide RF _).mono ?_
  rintro e w2 ⟨rfl, rfl⟩
  have e0 : w2.cell? ⟨w.heap.size + 1 + 1 + 1, 0, none⟩ = some (.int .i64 0) := Blk.cell (unhide HB) 0
  have e1 : w2.cell? ⟨w.heap.size + 1 + 1 + 1, 1, none⟩ = some (.int .i64 0) := Blk.cell (unhide HB) 1
  have e2 : w2.cell? ⟨w.heap.size + 1 + 1 + 1, 2, none⟩ = some (.slice none 0 0) := Blk.cell (unhide HB) 2
  have f := Blk.free (unhide HB)
  clear RF
  go_wp2
  have b3 := unhide HB
  have P := putM b3 (.int .i64 0) (.int .i64 0) (.slice none 0 0)
  generalize (((w2.setCell ⟨w.heap.size + 1 + 1 + 1, 0, none⟩ (.int .i64 0)).setCell ⟨w.heap.size + 1 + 1 + 1, 1, none⟩ (.int .i64 0)).setCell ⟨w.heap.size + 1 + 1 + 1, 2, none⟩ (.slice none 0 0)) = wE at *
  have c0 : wE.cell? ⟨w.heap.size + 1 + 1 + 1, 0, none⟩ = some (.int .i64 0) := Blk.cell P.1 0
  have c1 : wE.cell? ⟨w.heap.size + 1 + 1 + 1, 1, none⟩ = some (.int .i64 0) := Blk.cell P.1 1
  have c2 : wE.cell? ⟨w.heap.size + 1 + 1 + 1, 2, none⟩ = some (.slice none 0 0) := Blk.cell P.1 2
  refine bodyPost_ret (v := .tuple #[.agg #[.int .i64 0, .int .i64 0, .slice none 0 0], .int .i64 1]) (by simp [results, Try.results52, go_sem, c0, c1, c2]) rfl ?_
  exact ⟨none, 0, w.heap.size, rfl, Nat.le_refl _, Or.inl rfl, Nat.le_refl _, (Kp.of (unhide HG)).mod P.2 (by omega)⟩


set_option maxHeartbeats 2000000 in
theorem matSum_ok (U : Nat) (c0 : Bool) (n0 : Int) (hn : 0 ≤ n0 ∧ n0 < 1152921504606846976) (r c b o cap b2 o2 cap2 : Nat) (A B : Nat → Int) (hr : 1 ≤ r ∧ r ≤ 12) (hc : 1 ≤ c ∧ c ≤ 12) (hA : ∀ j, j < r * c → I64 (A j)) (hB : ∀ j, j < r * c → I64 (B j)) (w : World) (h : UC U c0 n0 w)
    (za : ∀ j, j < r * c → w.cell? ⟨b, o + j, none⟩ = some (.int .i64 (A j))) (zb : ∀ j, j < r * c → w.cell? ⟨b2, o2 + j, none⟩ = some (.int .i64 (B j))) (n4 : b ≠ U) (n5 : b2 ≠ U) :
    Calls Try.prog 34 #[.pointer (some ⟨U, 0, none⟩), .agg #[.int .i64 r, .int .i64 c, .slice (some ⟨b, o, none⟩) (r * c) cap], .agg #[.int .i64 r, .int .i64 c, .slice (some ⟨b2, o2, none⟩) (r * c) cap2]] w fun e w' => MatP r c (r * c) (fun p => s2N (A p) (B p)) 0 (fun w' => UC U (c0 || orC (fun p => s2C (A p) (B p)) (r * c)) (n0 + 2 * ((r * c : Nat) : Int)) w' ∧ Mk U w w') w e w' := by
  have hlt := Blk.lt h
  obtain ⟨G, s3, x0, x1, x2⟩ := alloc3 w #[.int .i64 r, .int .i64 c, .slice (some ⟨b, o, none⟩) (r * c) cap] 24 #[.int .i64 r, .int .i64 c, .slice (some ⟨b2, o2, none⟩) (r * c) cap2] 24 #[.int .i64 0, .int .i64 0, .slice none 0 0] 24
  have RK := hide (matReckonM U 0 53 (enters_of Try.func53 (by kernel_rfl) rfl) s2N s2C 2 (by omega) (fun _ => True) (fun _ _ _ _ => trivial) c0 n0 hn r c b o cap b2 o2 cap2 A B hr hc hA hB _ (Blk.grown h G) trivial (fun cc nn x y wx bo hx hy hnn hbo hu _ hrow => addTwoM U x y cc nn bo 2 wx hx hy hnn hu hrow hbo) (fun j hj => gat G (za j hj)) (fun j hj => gat G (zb j hj)) n4 n5)
  have HB := hide x2
  have HG := hide (And.intro G (And.intro s3 hlt))
  obtain ⟨len, hlen⟩ : ∃ q, r * c = q := ⟨_, rfl⟩
  simp only [hlen] at RK HG HB
  rw [hlen]
  clear G s3 x0 x1 x2 h hlt za zb hA hB hr hc hlen n4 n5 hn
  go_enter Try.func34, Try.ntmps34
  go_wp2_with fail
  generalize (((w.alloc (.cells #[.int .i64 r, .int .i64 c, .slice (some ⟨b, o, none⟩) len cap] 24)).alloc (.cells #[.int .i64 r, .int .i64 c, .slice (some ⟨b2, o2, none⟩) len cap2] 24)).alloc (.cells #[.int .i64 0, .int .i64 0, .slice none 0 0] 24)) = w1 at *
  refine (unhide RK).mono ?_
  rintro e w5 ⟨ao, cp, Lb, rfl, h1, h3, h4, u5, mk5⟩
  have lU : Hid (U < w.heap.size) := (unhide HG).2.2
  have b3 : Blk (w.heap.size + 1 + 1) #[.int .i64 0, .int .i64 0, .slice none 0 0] 24 w5 := Blk.mk (unhide HB) mk5 (by have := unhide lU; omega)
  have e0 : w5.cell? ⟨w.heap.size + 1 + 1, 0, none⟩ = some (.int .i64 0) := Blk.cell b3 0
  have e1 : w5.cell? ⟨w.heap.size + 1 + 1, 1, none⟩ = some (.int .i64 0) := Blk.cell b3 1
  have e2 : w5.cell? ⟨w.heap.size + 1 + 1, 2, none⟩ = some (.slice none 0 0) := Blk.cell b3 2
  have f := Blk.free b3
  have R := hide (And.intro b3 (And.intro h1 (And.intro h3 (And.intro h4 (And.intro u5 mk5)))))
  clear b3 h1 h3 h4 u5 mk5 RK
  go_wp2
  obtain ⟨b3, h1, h3, h4, u5, mk5⟩ := unhide R
  have P := putM b3 (.int .i64 r) (.int .i64 c) (.slice ao len cp)
  generalize (((w5.setCell ⟨w.heap.size + 1 + 1, 0, none⟩ (.int .i64 r)).setCell ⟨w.heap.size + 1 + 1, 1, none⟩ (.int .i64 c)).setCell ⟨w.heap.size + 1 + 1, 2, none⟩ (.slice ao len cp)) = wE at *
  have c0 : wE.cell? ⟨w.heap.size + 1 + 1, 0, none⟩ = some (.int .i64 r) := Blk.cell P.1 0
  have c1 : wE.cell? ⟨w.heap.size + 1 + 1, 1, none⟩ = some (.int .i64 c) := Blk.cell P.1 1
  have c2 : wE.cell? ⟨w.heap.size + 1 + 1, 2, none⟩ = some (.slice ao len cp) := Blk.cell P.1 2
  refine bodyPost_ret (v := .tuple #[.agg #[.int .i64 r, .int .i64 c, .slice ao len cp], .int .i64 0]) (by simp [results, Try.results34, go_sem, c0, c1, c2]) rfl ?_
  have hu := unhide lU
  have hs := (unhide HG).2.1
  have mw : Mk U w w5 := (Mk.of (Mod.of (unhide HG).1)).trans mk5
  exact ⟨_, _, Lb, rfl, by omega, h3.imp id (fun h => ⟨h.1, Blk.keep h.2 P.2 (by omega)⟩), h4, Blk.keep u5 P.2 (by omega), mw.new P.2 (by omega)⟩

set_option maxHeartbeats 2000000 in
theorem matSum_bad (U : Nat) (c0 : Bool) (n0 : Int) (hn : 0 ≤ n0 ∧ n0 < 1152921504606846976) (R1 C1 R2 C2 : Int) (a1 a2 : Option Addr) (l1 p1 l2 p2 : Nat) (Z : Nat → Int) (hb : ¬ (okM R1 C1 l1 ∧ okM R2 C2 l2 ∧ R1 = R2 ∧ C1 = C2)) (w : World) (h : UC U c0 n0 w) :
    Calls Try.prog 34 #[.pointer (some ⟨U, 0, none⟩), .agg #[.int .i64 R1, .int .i64 C1, .slice a1 l1 p1], .agg #[.int .i64 R2, .int .i64 C2, .slice a2 l2 p2]] w fun e w' => MatP 0 0 0 Z 3 (fun w' => UC U c0 n0 w' ∧ Mk U w w') w e w' := by
  have hlt := Blk.lt h
  obtain ⟨G, s3, x0, x1, x2⟩ := alloc3 w #[.int .i64 R1, .int .i64 C1, .slice a1 l1 p1] 24 #[.int .i64 R2, .int .i64 C2, .slice a2 l2 p2] 24 #[.int .i64 0, .int .i64 0, .slice none 0 0] 24
  have RK := hide (matReckonM_bad U 0 53 c0 n0 hn R1 C1 R2 C2 a1 a2 l1 p1 l2 p2 Z hb _ (Blk.grown h G))
  have HB := hide x2
  have HG := hide (And.intro G (And.intro s3 hlt))
  clear G s3 x0 x1 x2 h hlt hb hn
  go_enter Try.func34, Try.ntmps34
  go_wp2_with fail
  generalize (((w.alloc (.cells #[.int .i64 R1, .int .i64 C1, .slice a1 l1 p1] 24)).alloc (.cells #[.int .i64 R2, .int .i64 C2, .slice a2 l2 p2] 24)).alloc (.cells #[.int .i64 0, .int .i64 0, .slice none 0 0] 24)) = w1 at *
  refine (unhide RK).mono ?_
  rintro e w5 ⟨ao, cp, Lb, rfl, h1, h3, h4, u5, mk5⟩
  have lU : Hid (U < w.heap.size) := (unhide HG).2.2
  have b3 : Blk (w.heap.size + 1 + 1) #[.int .i64 0, .int .i64 0, .slice none 0 0] 24 w5 := Blk.mk (unhide HB) mk5 (by have := unhide lU; omega)
  have e0 : w5.cell? ⟨w.heap.size + 1 + 1, 0, none⟩ = some (.int .i64 0) := Blk.cell b3 0
  have e1 : w5.cell? ⟨w.heap.size + 1 + 1, 1, none⟩ = some (.int .i64 0) := Blk.cell b3 1
  have e2 : w5.cell? ⟨w.heap.size + 1 + 1, 2, none⟩ = some (.slice none 0 0) := Blk.cell b3 2
  have f := Blk.free b3
  have R := hide (And.intro b3 (And.intro h1 (And.intro h3 (And.intro h4 (And.intro u5 mk5)))))
  clear b3 h1 h3 h4 u5 mk5 RK
  go_wp2
  obtain ⟨b3, h1, h3, h4, u5, mk5⟩ := unhide R
  have P := putM b3 (.int .i64 0) (.int .i64 0) (.slice ao 0 cp)
  generalize (((w5.setCell ⟨w.heap.size + 1 + 1, 0, none⟩ (.int .i64 0)).setCell ⟨w.heap.size + 1 + 1, 1, none⟩ (.int .i64 0)).setCell ⟨w.heap.size + 1 + 1, 2, none⟩ (.slice ao 0 cp)) = wE at *
  have c0 : wE.cell? ⟨w.heap.size + 1 + 1, 0, none⟩ = some (.int .i64 0) := Blk.cell P.1 0
  have c1 : wE.cell? ⟨w.heap.size + 1 + 1, 1, none⟩ = some (.int .i64 0) := Blk.cell P.1 1
  have c2 : wE.cell? ⟨w.heap.size + 1 + 1, 2, none⟩ = some (.slice ao 0 cp) := Blk.cell P.1 2
  refine bodyPost_ret (v := .tuple #[.agg #[.int .i64 0, .int .i64 0, .slice ao 0 cp], .int .i64 3]) (by simp [results, Try.results34, go_sem, c0, c1, c2]) rfl ?_
  have hu := unhide lU
  have mw : Mk U w w5 := (Mk.of (Mod.of (unhide HG).1)).trans mk5
  exact ⟨_, _, w.heap.size, rfl, Nat.le_refl _, Or.inl rfl, Nat.zero_le _, Blk.keep u5 P.2 (by omega), mw.new P.2 (by omega)⟩

set_option maxHeartbeats 2000000 in
theorem matSum_none (p : Option Addr) (R1 C1 R2 C2 : Int) (a1 a2 : Option Addr) (l1 p1 l2 p2 : Nat) (Z : Nat → Int) (w : World) (h : NU p w) :
    Calls Try.prog 34 #[.pointer p, .agg #[.int .i64 R1, .int .i64 C1, .slice a1 l1 p1], .agg #[.int .i64 R2, .int .i64 C2, .slice a2 l2 p2]] w fun e w' => MatP 0 0 0 Z 1 (Kp w) w e w' := by
  obtain ⟨G, s3, x0, x1, x2⟩ := alloc3 w #[.int .i64 R1, .int .i64 C1, .slice a1 l1 p1] 24 #[.int .i64 R2, .int .i64 C2, .slice a2 l2 p2] 24 #[.int .i64 0, .int .i64 0, .slice none 0 0] 24
  have RK := hide (matReckonM_none p 0 53 R1 C1 R2 C2 a1 a2 l1 p1 l2 p2 Z _ (h.grown G))
  have HB := hide x2
  have HG := hide G
  clear G s3 x0 x1 x2 h
  go_enter Try.func34, Try.ntmps34
  go_wp2_with fail
  generalize (((w.alloc (.cells #[.int .i64 R1, .int .i64 C1, .slice a1 l1 p1] 24)).alloc (.cells #[.int .i64 R2, .int .i64 C2, .slice a2 l2 p2] 24)).alloc (.cells #[.int .i64 0, .int .i64 0, .slice none 0 0] 24)) = w1 at *
  refine (unhide RK).mono ?_
  rintro e w5 ⟨ao, cp, Lb, rfl, h1, h3, h4, k5⟩
  have b3 : Blk (w.heap.size + 1 + 1) #[.int .i64 0, .int .i64 0, .slice none 0 0] 24 w5 := Blk.kp (unhide HB) k5
  have e0 : w5.cell? ⟨w.heap.size + 1 + 1, 0, none⟩ = some (.int .i64 0) := Blk.cell b3 0
  have e1 : w5.cell? ⟨w.heap.size + 1 + 1, 1, none⟩ = some (.int .i64 0) := Blk.cell b3 1
  have e2 : w5.cell? ⟨w.heap.size + 1 + 1, 2, none⟩ = some (.slice none 0 0) := Blk.cell b3 2
  have f := Blk.free b3
  have R := hide (And.intro b3 k5)
  clear b3 h1 h3 h4 k5 RK
  go_wp2
  obtain ⟨b3, k5⟩ := unhide R
  have P := putM b3 (.int .i64 0) (.int .i64 0) (.slice ao 0 cp)
  generalize (((w5.setCell ⟨w.heap.size + 1 + 1, 0, none⟩ (.int .i64 0)).setCell ⟨w.heap.size + 1 + 1, 1, none⟩ (.int .i64 0)).setCell ⟨w.heap.size + 1 + 1, 2, none⟩ (.slice ao 0 cp)) = wE at *
  have c0 : wE.cell? ⟨w.heap.size + 1 + 1, 0, none⟩ = some (.int .i64 0) := Blk.cell P.1 0
  have c1 : wE.cell? ⟨w.heap.size + 1 + 1, 1, none⟩ = some (.int .i64 0) := Blk.cell P.1 1
  have c2 : wE.cell? ⟨w.heap.size + 1 + 1, 2, none⟩ = some (.slice ao 0 cp) := Blk.cell P.1 2
  refine bodyPost_ret (v := .tuple #[.agg #[.int .i64 0, .int .i64 0, .slice ao 0 cp], .int .i64 1]) (by simp [results, Try.results34, go_sem, c0, c1, c2]) rfl ?_
  exact ⟨_, _, w.heap.size, rfl, Nat.le_refl _, Or.inl rfl, Nat.zero_le _, ((Kp.of (unhide HG)).trans k5).mod P.2 (by omega)⟩


set_option maxHeartbeats 2000000 in
theorem matLess_ok (U : Nat) (c0 : Bool) (n0 : Int) (hn : 0 ≤ n0 ∧ n0 < 1152921504606846976) (r c b o cap b2 o2 cap2 : Nat) (A B : Nat → Int) (hr : 1 ≤ r ∧ r ≤ 12) (hc : 1 ≤ c ∧ c ≤ 12) (hA : ∀ j, j < r * c → I64 (A j)) (hB : ∀ j, j < r * c → I64 (B j)) (w : World) (h : UC U c0 n0 w)
    (za : ∀ j, j < r * c → w.cell? ⟨b, o + j, none⟩ = some (.int .i64 (A j))) (zb : ∀ j, j < r * c → w.cell? ⟨b2, o2 + j, none⟩ = some (.int .i64 (B j))) (n4 : b ≠ U) (n5 : b2 ≠ U) :
    Calls Try.prog 36 #[.pointer (some ⟨U, 0, none⟩), .agg #[.int .i64 r, .int .i64 c, .slice (some ⟨b, o, none⟩) (r * c) cap], .agg #[.int .i64 r, .int .i64 c, .slice (some ⟨b2, o2, none⟩) (r * c) cap2]] w fun e w' => MatP r c (r * c) (fun p => subN (A p) (B p)) 0 (fun w' => UC U (c0 || orC (fun p => subC (A p) (B p)) (r * c)) (n0 + 1 * ((r * c : Nat) : Int)) w' ∧ Mk U w w') w e w' := by
  have hlt := Blk.lt h
  obtain ⟨G, s4, x0, x1, x2, x3⟩ := alloc4 w #[.pointer (some ⟨U, 0, none⟩)] 41 #[.int .i64 r, .int .i64 c, .slice (some ⟨b, o, none⟩) (r * c) cap] 24 #[.int .i64 r, .int .i64 c, .slice (some ⟨b2, o2, none⟩) (r * c) cap2] 24 #[.int .i64 0, .int .i64 0, .slice none 0 0] 24
  have RK := hide (matReckonP U w.heap.size 57 (enters_of Try.func57 (by kernel_rfl) rfl) subN subC 1 (by omega) (fun wx => Blk w.heap.size #[.pointer (some ⟨U, 0, none⟩)] 41 wx) (fun a b ia m => Blk.mk ia m (by omega)) c0 n0 hn r c b o cap b2 o2 cap2 A B hr hc hA hB _ (Blk.grown h G) x0 (fun cc nn x y wx bo hx hy hnn hbo hu hi hrow => less1 U w.heap.size bo x y hx hy cc nn hnn wx hu hi (by omega) hbo hrow) (fun j hj => gat G (za j hj)) (fun j hj => gat G (zb j hj)) n4 n5)
  have HB := hide x3
  have HG := hide (And.intro G (And.intro s4 hlt))
  obtain ⟨len, hlen⟩ : ∃ q, r * c = q := ⟨_, rfl⟩
  simp only [hlen] at RK HG HB
  rw [hlen]
  clear G s4 x0 x1 x2 x3 h hlt za zb hA hB hr hc hlen n4 n5 hn
  go_enter Try.func36, Try.ntmps36
  go_wp2_with fail
  generalize ((((w.alloc (.cells #[.pointer (some ⟨U, 0, none⟩)] 41)).alloc (.cells #[.int .i64 r, .int .i64 c, .slice (some ⟨b, o, none⟩) len cap] 24)).alloc (.cells #[.int .i64 r, .int .i64 c, .slice (some ⟨b2, o2, none⟩) len cap2] 24)).alloc (.cells #[.int .i64 0, .int .i64 0, .slice none 0 0] 24)) = w1 at *
  refine (unhide RK).mono ?_
  rintro e w5 ⟨ao, cp, Lb, rfl, h1, h3, h4, u5, mk5⟩
  have lU : Hid (U < w.heap.size) := (unhide HG).2.2
  have b3 : Blk (w.heap.size + 1 + 1 + 1) #[.int .i64 0, .int .i64 0, .slice none 0 0] 24 w5 := Blk.mk (unhide HB) mk5 (by have := unhide lU; omega)
  have e0 : w5.cell? ⟨w.heap.size + 1 + 1 + 1, 0, none⟩ = some (.int .i64 0) := Blk.cell b3 0
  have e1 : w5.cell? ⟨w.heap.size + 1 + 1 + 1, 1, none⟩ = some (.int .i64 0) := Blk.cell b3 1
  have e2 : w5.cell? ⟨w.heap.size + 1 + 1 + 1, 2, none⟩ = some (.slice none 0 0) := Blk.cell b3 2
  have f := Blk.free b3
  have R := hide (And.intro b3 (And.intro h1 (And.intro h3 (And.intro h4 (And.intro u5 mk5)))))
  clear b3 h1 h3 h4 u5 mk5 RK
  go_wp2
  obtain ⟨b3, h1, h3, h4, u5, mk5⟩ := unhide R
  have P := putM b3 (.int .i64 r) (.int .i64 c) (.slice ao len cp)
  generalize (((w5.setCell ⟨w.heap.size + 1 + 1 + 1, 0, none⟩ (.int .i64 r)).setCell ⟨w.heap.size + 1 + 1 + 1, 1, none⟩ (.int .i64 c)).setCell ⟨w.heap.size + 1 + 1 + 1, 2, none⟩ (.slice ao len cp)) = wE at *
  have c0 : wE.cell? ⟨w.heap.size + 1 + 1 + 1, 0, none⟩ = some (.int .i64 r) := Blk.cell P.1 0
  have c1 : wE.cell? ⟨w.heap.size + 1 + 1 + 1, 1, none⟩ = some (.int .i64 c) := Blk.cell P.1 1
  have c2 : wE.cell? ⟨w.heap.size + 1 + 1 + 1, 2, none⟩ = some (.slice ao len cp) := Blk.cell P.1 2
  refine bodyPost_ret (v := .tuple #[.agg #[.int .i64 r, .int .i64 c, .slice ao len cp], .int .i64 0]) (by simp [results, Try.results36, go_sem, c0, c1, c2]) rfl ?_
  have hu := unhide lU
  have hs := (unhide HG).2.1
  have mw : Mk U w w5 := (Mk.of (Mod.of (unhide HG).1)).trans mk5
  exact ⟨_, _, Lb, rfl, by omega, h3.imp id (fun h => ⟨h.1, Blk.keep h.2 P.2 (by omega)⟩), h4, Blk.keep u5 P.2 (by omega), mw.new P.2 (by omega)⟩

set_option maxHeartbeats 2000000 in
theorem matLess_bad (U : Nat) (c0 : Bool) (n0 : Int) (hn : 0 ≤ n0 ∧ n0 < 1152921504606846976) (R1 C1 R2 C2 : Int) (a1 a2 : Option Addr) (l1 p1 l2 p2 : Nat) (Z : Nat → Int) (hb : ¬ (okM R1 C1 l1 ∧ okM R2 C2 l2 ∧ R1 = R2 ∧ C1 = C2)) (w : World) (h : UC U c0 n0 w) :
    Calls Try.prog 36 #[.pointer (some ⟨U, 0, none⟩), .agg #[.int .i64 R1, .int .i64 C1, .slice a1 l1 p1], .agg #[.int .i64 R2, .int .i64 C2, .slice a2 l2 p2]] w fun e w' => MatP 0 0 0 Z 3 (fun w' => UC U c0 n0 w' ∧ Mk U w w') w e w' := by
  have hlt := Blk.lt h
  obtain ⟨G, s4, x0, x1, x2, x3⟩ := alloc4 w #[.pointer (some ⟨U, 0, none⟩)] 41 #[.int .i64 R1, .int .i64 C1, .slice a1 l1 p1] 24 #[.int .i64 R2, .int .i64 C2, .slice a2 l2 p2] 24 #[.int .i64 0, .int .i64 0, .slice none 0 0] 24
  have RK := hide (matReckonP_bad U w.heap.size 57 c0 n0 hn R1 C1 R2 C2 a1 a2 l1 p1 l2 p2 Z hb _ (Blk.grown h G))
  have HB := hide x3
  have HG := hide (And.intro G (And.intro s4 hlt))
  clear G s4 x0 x1 x2 x3 h hlt hb hn
  go_enter Try.func36, Try.ntmps36
  go_wp2_with fail
  generalize ((((w.alloc (.cells #[.pointer (some ⟨U, 0, none⟩)] 41)).alloc (.cells #[.int .i64 R1, .int .i64 C1, .slice a1 l1 p1] 24)).alloc (.cells #[.int .i64 R2, .int .i64 C2, .slice a2 l2 p2] 24)).alloc (.cells #[.int .i64 0, .int .i64 0, .slice none 0 0] 24)) = w1 at *
  refine (unhide RK).mono ?_
  rintro e w5 ⟨ao, cp, Lb, rfl, h1, h3, h4, u5, mk5⟩
  have lU : Hid (U < w.heap.size) := (unhide HG).2.2
  have b3 : Blk (w.heap.size + 1 + 1 + 1) #[.int .i64 0, .int .i64 0, .slice none 0 0] 24 w5 := Blk.mk (unhide HB) mk5 (by have := unhide lU; omega)
  have e0 : w5.cell? ⟨w.heap.size + 1 + 1 + 1, 0, none⟩ = some (.int .i64 0) := Blk.cell b3 0
  have e1 : w5.cell? ⟨w.heap.size + 1 + 1 + 1, 1, none⟩ = some (.int .i64 0) := Blk.cell b3 1
  have e2 : w5.cell? ⟨w.heap.size + 1 + 1 + 1, 2, none⟩ = some (.slice none 0 0) := Blk.cell b3 2
  have f := Blk.free b3
  have R := hide (And.intro b3 (And.intro h1 (And.intro h3 (And.intro h4 (And.intro u5 mk5)))))
  clear b3 h1 h3 h4 u5 mk5 RK
  go_wp2
  obtain ⟨b3, h1, h3, h4, u5, mk5⟩ := unhide R
  have P := putM b3 (.int .i64 0) (.int .i64 0) (.slice ao 0 cp)
  generalize (((w5.setCell ⟨w.heap.size + 1 + 1 + 1, 0, none⟩ (.int .i64 0)).setCell ⟨w.heap.size + 1 + 1 + 1, 1, none⟩ (.int .i64 0)).setCell ⟨w.heap.size + 1 + 1 + 1, 2, none⟩ (.slice ao 0 cp)) = wE at *
  have c0 : wE.cell? ⟨w.heap.size + 1 + 1 + 1, 0, none⟩ = some (.int .i64 0) := Blk.cell P.1 0
  have c1 : wE.cell? ⟨w.heap.size + 1 + 1 + 1, 1, none⟩ = some (.int .i64 0) := Blk.cell P.1 1
  have c2 : wE.cell? ⟨w.heap.size + 1 + 1 + 1, 2, none⟩ = some (.slice ao 0 cp) := Blk.cell P.1 2
  refine bodyPost_ret (v := .tuple #[.agg #[.int .i64 0, .int .i64 0, .slice ao 0 cp], .int .i64 3]) (by simp [results, Try.results36, go_sem, c0, c1, c2]) rfl ?_
  have hu := unhide lU
  have mw : Mk U w w5 := (Mk.of (Mod.of (unhide HG).1)).trans mk5
  exact ⟨_, _, w.heap.size, rfl, Nat.le_refl _, Or.inl rfl, Nat.zero_le _, Blk.keep u5 P.2 (by omega), mw.new P.2 (by omega)⟩

set_option maxHeartbeats 2000000 in
theorem matLess_none (p : Option Addr) (R1 C1 R2 C2 : Int) (a1 a2 : Option Addr) (l1 p1 l2 p2 : Nat) (Z : Nat → Int) (w : World) (h : NU p w) :
    Calls Try.prog 36 #[.pointer p, .agg #[.int .i64 R1, .int .i64 C1, .slice a1 l1 p1], .agg #[.int .i64 R2, .int .i64 C2, .slice a2 l2 p2]] w fun e w' => MatP 0 0 0 Z 1 (Kp w) w e w' := by
  obtain ⟨G, s4, x0, x1, x2, x3⟩ := alloc4 w #[.pointer p] 41 #[.int .i64 R1, .int .i64 C1, .slice a1 l1 p1] 24 #[.int .i64 R2, .int .i64 C2, .slice a2 l2 p2] 24 #[.int .i64 0, .int .i64 0, .slice none 0 0] 24
  have RK := hide (matReckonP_none p w.heap.size 57 R1 C1 R2 C2 a1 a2 l1 p1 l2 p2 Z _ (h.grown G))
  have HB := hide x3
  have HG := hide G
  clear G s4 x0 x1 x2 x3 h
  go_enter Try.func36, Try.ntmps36
  go_wp2_with fail
  generalize ((((w.alloc (.cells #[.pointer p] 41)).alloc (.cells #[.int .i64 R1, .int .i64 C1, .slice a1 l1 p1] 24)).alloc (.cells #[.int .i64 R2, .int .i64 C2, .slice a2 l2 p2] 24)).alloc (.cells #[.int .i64 0, .int .i64 0, .slice none 0 0] 24)) = w1 at *
  refine (unhide RK).mono ?_
  rintro e w5 ⟨ao, cp, Lb, rfl, h1, h3, h4, k5⟩
  have b3 : Blk (w.heap.size + 1 + 1 + 1) #[.int .i64 0, .int .i64 0, .slice none 0 0] 24 w5 := Blk.kp (unhide HB) k5
  have e0 : w5.cell? ⟨w.heap.size + 1 + 1 + 1, 0, none⟩ = some (.int .i64 0) := Blk.cell b3 0
  have e1 : w5.cell? ⟨w.heap.size + 1 + 1 + 1, 1, none⟩ = some (.int .i64 0) := Blk.cell b3 1
  have e2 : w5.cell? ⟨w.heap.size + 1 + 1 + 1, 2, none⟩ = some (.slice none 0 0) := Blk.cell b3 2
  have f := Blk.free b3
  have R := hide (And.intro b3 k5)
  clear b3 h1 h3 h4 k5 RK
  go_wp2
  obtain ⟨b3, k5⟩ := unhide R
  have P := putM b3 (.int .i64 0) (.int .i64 0) (.slice ao 0 cp)
  generalize (((w5.setCell ⟨w.heap.size + 1 + 1 + 1, 0, none⟩ (.int .i64 0)).setCell ⟨w.heap.size + 1 + 1 + 1, 1, none⟩ (.int .i64 0)).setCell ⟨w.heap.size + 1 + 1 + 1, 2, none⟩ (.slice ao 0 cp)) = wE at *
  have c0 : wE.cell? ⟨w.heap.size + 1 + 1 + 1, 0, none⟩ = some (.int .i64 0) := Blk.cell P.1 0
  have c1 : wE.cell? ⟨w.heap.size + 1 + 1 + 1, 1, none⟩ = some (.int .i64 0) := Blk.cell P.1 1
  have c2 : wE.cell? ⟨w.heap.size + 1 + 1 + 1, 2, none⟩ = some (.slice ao 0 cp) := Blk.cell P.1 2
  refine bodyPost_ret (v := .tuple #[.agg #[.int .i64 0, .int .i64 0, .slice ao 0 cp], .int .i64 1]) (by simp [results, Try.results36, go_sem, c0, c1, c2]) rfl ?_
  exact ⟨_, _, w.heap.size, rfl, Nat.le_refl _, Or.inl rfl, Nat.zero_le _, ((Kp.of (unhide HG)).trans k5).mod P.2 (by omega)⟩


set_option maxHeartbeats 2000000 in
theorem matScale_ok (U : Nat) (c0 : Bool) (n0 s : Int) (hs : I64 s) (hn : 0 ≤ n0 ∧ n0 < 1152921504606846976) (r c b o cap : Nat) (A : Nat → Int) (hr : 1 ≤ r ∧ r ≤ 12) (hc : 1 ≤ c ∧ c ≤ 12) (hA : ∀ j, j < r * c → I64 (A j)) (w : World) (h : UC U c0 n0 w) (za : ∀ j, j < r * c → w.cell? ⟨b, o + j, none⟩ = some (.int .i64 (A j))) (n4 : b ≠ U) :
    Calls Try.prog 35 #[.pointer (some ⟨U, 0, none⟩), .agg #[.int .i64 r, .int .i64 c, .slice (some ⟨b, o, none⟩) (r * c) cap], .int .i64 s] w fun e w' => MatP r c (r * c) (fun p => m2N (A p) s) 0 (fun w' => UC U (c0 || orC (fun p => m2C (A p) s) (r * c)) (n0 + 2 * ((r * c : Nat) : Int)) w' ∧ Mk U w w') w e w' := by
  have hlt := Blk.lt h
  obtain ⟨G, s5, bu, ba, bs, br, bx⟩ := alloc5 w #[.pointer (some ⟨U, 0, none⟩)] 41 #[.int .i64 r, .int .i64 c, .slice (some ⟨b, o, none⟩) (r * c) cap] 24 #[.int .i64 s] 3 #[.int .i64 0, .int .i64 0, .slice none 0 0] 24 #[.int .i64 r, .int .i64 c, .slice (some ⟨b, o, none⟩) (r * c) cap] 24
  have RF := hide (refuse1 U c0 n0 ⟨hn.1, by omega⟩ r c (some ⟨b, o, none⟩) (r * c) cap (w.heap.size + 1 + 1 + 1 + 1) 0 (Or.inl ⟨⟨by omega, by omega, by rw [Int.natCast_mul]⟩, rfl⟩) _ (Blk.grown h G) bx (by omega))
  have MD : Hid (∀ wx, Mk U w wx → UC U c0 n0 wx → Blk w.heap.size #[.pointer (some ⟨U, 0, none⟩)] 41 wx → Blk (w.heap.size + 1) #[.int .i64 r, .int .i64 c, .slice (some ⟨b, o, none⟩) (r * c) cap] 24 wx → Blk (w.heap.size + 1 + 1) #[.int .i64 s] 3 wx →
      Calls Try.prog 41 #[.int .i64 r, .int .i64 c, .func (.func 54) #[] #[.pointer (some ⟨w.heap.size, 0, none⟩), .pointer (some ⟨w.heap.size + 1, 0, none⟩), .pointer (some ⟨w.heap.size + 1 + 1, 0, none⟩)]] wx fun e w' => MadeP r c (fun p => m2N (A p) s) (fun w' => UC U (c0 || orC (fun p => m2C (A p) s) (r * c)) (n0 + 2 * ((r * c : Nat) : Int)) w' ∧ Mk U wx w') wx e w') := by
    intro wx mx ux xu xa xs
    refine madeU U c0 n0 2 (by omega) (fun p => m2C (A p) s) 54 (enters_of Try.func54 (by kernel_rfl) rfl) _ r c hr hc (fun p => m2N (A p) s) wx hn ux (fun cc nn i k a hi hk hnn ua ma => ?_)
    exact scale1 U cc nn hnn r c i k b o cap w.heap.size (w.heap.size + 1) (w.heap.size + 1 + 1) s A hr hc hi hk hs hA a ua (Blk.mk xu ma (by omega)) (Blk.mk xa ma (by omega)) (Blk.mk xs ma (by omega)) (fun j hj => ma.cell (mx.cell (za j hj) n4) n4) (by omega) (by omega) (by omega) n4
  have HB := hide (And.intro bu (And.intro ba (And.intro bs br)))
  have HG := hide (And.intro G (And.intro s5 hlt))
  obtain ⟨len, hlen⟩ : ∃ q, r * c = q := ⟨_, rfl⟩
  simp only [hlen] at RF HG HB MD
  rw [hlen]
  have HL := hide hlen
  clear G s5 bu ba bs br bx h hlt za hA hr hc hlen n4 hn hs
  go_enter Try.func35, Try.ntmps35
  go_wp2_with fail
  generalize (((((w.alloc (.cells #[.pointer (some ⟨U, 0, none⟩)] 41)).alloc (.cells #[.int .i64 r, .int .i64 c, .slice (some ⟨b, o, none⟩) len cap] 24)).alloc (.cells #[.int .i64 s] 3)).alloc (.cells #[.int .i64 0, .int .i64 0, .slice none 0 0] 24)).alloc (.cells #[.int .i64 r, .int .i64 c, .slice (some ⟨b, o, none⟩) len cap] 24)) = w1 at *
  refine (unhide RF).mono ?_
  rintro e w2 ⟨rfl, u2, m2⟩
  have M2 : Hid (Mk U w w2) := Mk.of ((Mod.of (unhide HG).1).trans m2)
  have Z2 : Hid (w.heap.size + 1 + 1 + 1 + 1 + 1 ≤ w2.heap.size) := by have := (unhide HG).2.1; have := m2.2.2.2.2; show _ ≤ _; omega
  obtain ⟨bu, ba, bs, br⟩ := unhide HB
  have lU : Hid (U < w.heap.size) := (unhide HG).2.2
  have bu2 := Blk.keep bu m2 (by have := unhide lU; omega)
  have ba2 := Blk.keep ba m2 (by have := unhide lU; omega)
  have bs2 := Blk.keep bs m2 (by have := unhide lU; omega)
  have br2 := Blk.keep br m2 (by have := unhide lU; omega)
  have p0 : w2.cell? ⟨w.heap.size + 1, 0, none⟩ = some (.int .i64 r) := Blk.cell ba2 0
  have p1 : w2.cell? ⟨w.heap.size + 1, 1, none⟩ = some (.int .i64 c) := Blk.cell ba2 1
  have M4 := hide (unhide MD w2 (unhide M2) u2 bu2 ba2 bs2)
  have HR := hide br2
  clear bu ba bs br bu2 ba2 bs2 br2 u2 m2 RF HB MD
  go_wp2_with fail
  refine (unhide M4).mono ?_
  rintro e w5 ⟨Lb, h1, rfl, h3, u5, mk5⟩
  have b3 : Blk (w.heap.size + 1 + 1 + 1) #[.int .i64 0, .int .i64 0, .slice none 0 0] 24 w5 := Blk.mk (unhide HR) mk5 (by have := unhide lU; omega)
  have e0 : w5.cell? ⟨w.heap.size + 1 + 1 + 1, 0, none⟩ = some (.int .i64 0) := Blk.cell b3 0
  have e1 : w5.cell? ⟨w.heap.size + 1 + 1 + 1, 1, none⟩ = some (.int .i64 0) := Blk.cell b3 1
  have e2 : w5.cell? ⟨w.heap.size + 1 + 1 + 1, 2, none⟩ = some (.slice none 0 0) := Blk.cell b3 2
  have f := Blk.free b3
  have R := hide (And.intro b3 (And.intro h1 (And.intro h3 (And.intro u5 mk5))))
  clear b3 h1 h3 u5 mk5 M4 p0 p1
  go_wp2
  obtain ⟨b3, h1, h3, u5, mk5⟩ := unhide R
  have P := putM b3 (.int .i64 r) (.int .i64 c) (.slice (some ⟨Lb, 0, none⟩) (r * c) (r * c))
  generalize (((w5.setCell ⟨w.heap.size + 1 + 1 + 1, 0, none⟩ (.int .i64 r)).setCell ⟨w.heap.size + 1 + 1 + 1, 1, none⟩ (.int .i64 c)).setCell ⟨w.heap.size + 1 + 1 + 1, 2, none⟩ (.slice (some ⟨Lb, 0, none⟩) (r * c) (r * c))) = wE at *
  have c0 : wE.cell? ⟨w.heap.size + 1 + 1 + 1, 0, none⟩ = some (.int .i64 r) := Blk.cell P.1 0
  have c1 : wE.cell? ⟨w.heap.size + 1 + 1 + 1, 1, none⟩ = some (.int .i64 c) := Blk.cell P.1 1
  have c2 : wE.cell? ⟨w.heap.size + 1 + 1 + 1, 2, none⟩ = some (.slice (some ⟨Lb, 0, none⟩) (r * c) (r * c)) := Blk.cell P.1 2
  refine bodyPost_ret (v := .tuple #[.agg #[.int .i64 r, .int .i64 c, .slice (some ⟨Lb, 0, none⟩) (r * c) (r * c)], .int .i64 0]) (by simp [results, Try.results35, go_sem, c0, c1, c2]) rfl ?_
  have hz := unhide Z2
  have hu := unhide lU
  have mw := unhide M2
  have hl' := unhide HL
  subst hl'
  exact ⟨_, _, Lb, rfl, by omega, Or.inr ⟨rfl, Blk.keep h3 P.2 (by omega)⟩, Nat.le_refl _, Blk.keep u5 P.2 (by omega), (mw.trans mk5).new P.2 (by omega)⟩

set_option maxHeartbeats 2000000 in
theorem matScale_bad (U : Nat) (c0 : Bool) (n0 s : Int) (hn : 0 ≤ n0 ∧ n0 < 1152921504606846976) (R1 C1 : Int) (a1 : Option Addr) (l1 p1 : Nat) (Z : Nat → Int) (ho : ¬ okM R1 C1 l1) (w : World) (h : UC U c0 n0 w) :
    Calls Try.prog 35 #[.pointer (some ⟨U, 0, none⟩), .agg #[.int .i64 R1, .int .i64 C1, .slice a1 l1 p1], .int .i64 s] w fun e w' => MatP 0 0 0 Z 3 (fun w' => UC U c0 n0 w' ∧ Mk U w w') w e w' := by
  have hlt := Blk.lt h
  obtain ⟨G, s5, bu, ba, bs, br, bx⟩ := alloc5 w #[.pointer (some ⟨U, 0, none⟩)] 41 #[.int .i64 R1, .int .i64 C1, .slice a1 l1 p1] 24 #[.int .i64 s] 3 #[.int .i64 0, .int .i64 0, .slice none 0 0] 24 #[.int .i64 R1, .int .i64 C1, .slice a1 l1 p1] 24
  have lU : Hid (U < w.heap.size) := hlt
  have RF := hide (refuse1 U c0 n0 ⟨hn.1, by omega⟩ R1 C1 a1 l1 p1 (w.heap.size + 1 + 1 + 1 + 1) 3 (Or.inr ⟨ho, rfl⟩) _ (Blk.grown h G) bx (by omega))
  have HB := hide br
  have HG := hide G
  clear G s5 bu ba bs br bx h hlt ho hn
  go_enter Try.func35, Try.ntmps35
  go_wp2_with fail
  generalize (((((w.alloc (.cells #[.pointer (some ⟨U, 0, none⟩)] 41)).alloc (.cells #[.int .i64 R1, .int .i64 C1, .slice a1 l1 p1] 24)).alloc (.cells #[.int .i64 s] 3)).alloc (.cells #[.int .i64 0, .int .i64 0, .slice none 0 0] 24)).alloc (.cells #[.int .i64 R1, .int .i64 C1, .slice a1 l1 p1] 24)) = w1 at *
  refine (unhide RF).mono ?_
  rintro e w2 ⟨rfl, u2, m2⟩
  have b3 := Blk.keep (unhide HB) m2 (by have := unhide lU; omega)
  have e0 : w2.cell? ⟨w.heap.size + 1 + 1 + 1, 0, none⟩ = some (.int .i64 0) := Blk.cell b3 0
  have e1 : w2.cell? ⟨w.heap.size + 1 + 1 + 1, 1, none⟩ = some (.int .i64 0) := Blk.cell b3 1
  have e2 : w2.cell? ⟨w.heap.size + 1 + 1 + 1, 2, none⟩ = some (.slice none 0 0) := Blk.cell b3 2
  have f := Blk.free b3
  have R := hide (And.intro b3 (And.intro u2 (Mk.of ((Mod.of (unhide HG)).trans m2))))
  clear b3 u2 m2 RF
  go_wp2
  obtain ⟨b3, u2, m2⟩ := unhide R
  have P := putM b3 (.int .i64 0) (.int .i64 0) (.slice none 0 0)
  generalize (((w2.setCell ⟨w.heap.size + 1 + 1 + 1, 0, none⟩ (.int .i64 0)).setCell ⟨w.heap.size + 1 + 1 + 1, 1, none⟩ (.int .i64 0)).setCell ⟨w.heap.size + 1 + 1 + 1, 2, none⟩ (.slice none 0 0)) = wE at *
  have c0 : wE.cell? ⟨w.heap.size + 1 + 1 + 1, 0, none⟩ = some (.int .i64 0) := Blk.cell P.1 0
  have c1 : wE.cell? ⟨w.heap.size + 1 + 1 + 1, 1, none⟩ = some (.int .i64 0) := Blk.cell P.1 1
  have c2 : wE.cell? ⟨w.heap.size + 1 + 1 + 1, 2, none⟩ = some (.slice none 0 0) := Blk.cell P.1 2
  refine bodyPost_ret (v := .tuple #[.agg #[.int .i64 0, .int .i64 0, .slice none 0 0], .int .i64 3]) (by simp [results, Try.results35, go_sem, c0, c1, c2]) rfl ?_
  exact ⟨none, 0, w.heap.size, rfl, Nat.le_refl _, Or.inl rfl, Nat.le_refl _, Blk.keep u2 P.2 (by have := unhide lU; omega), m2.new P.2 (by omega)⟩

set_option maxHeartbeats 2000000 in
theorem matScale_none (p : Option Addr) (s : Int) (R1 C1 : Int) (a1 : Option Addr) (l1 p1 : Nat) (Z : Nat → Int) (w : World) (h : NU p w) :
    Calls Try.prog 35 #[.pointer p, .agg #[.int .i64 R1, .int .i64 C1, .slice a1 l1 p1], .int .i64 s] w fun e w' => MatP 0 0 0 Z 1 (Kp w) w e w' := by
  obtain ⟨G, s5, bu, ba, bs, br, bx⟩ := alloc5 w #[.pointer p] 41 #[.int .i64 R1, .int .i64 C1, .slice a1 l1 p1] 24 #[.int .i64 s] 3 #[.int .i64 0, .int .i64 0, .slice none 0 0] 24 #[.int .i64 R1, .int .i64 C1, .slice a1 l1 p1] 24
  have HB := hide br
  have HG := hide G
  have RF := hide (fun s => refuseNone p s _ (h.grown G))
  clear G s5 bu ba bs br bx h
  go_enter Try.func35, Try.ntmps35
  go_wp2_with fail
  generalize (((((w.alloc (.cells #[.pointer p] 41)).alloc (.cells #[.int .i64 R1, .int .i64 C1, .slice a1 l1 p1] 24)).alloc (.cells #[.int .i64 s] 3)).alloc (.cells #[.int .i64 0, .int .i64 0, .slice none 0 0] 24)).alloc (.cells #[.int .i64 R1, .int .i64 C1, .slice a1 l1 p1] 24)) = w1 at *
  refine (unhide RF _).mono ?_
  rintro e w2 ⟨rfl, rfl⟩
  have e0 : w2.cell? ⟨w.heap.size + 1 + 1 + 1, 0, none⟩ = some (.int .i64 0) := Blk.cell (unhide HB) 0
  have e1 : w2.cell? ⟨w.heap.size + 1 + 1 + 1, 1, none⟩ = some (.int .i64 0) := Blk.cell (unhide HB) 1
  have e2 : w2.cell? ⟨w.heap.size + 1 + 1 + 1, 2, none⟩ = some (.slice none 0 0) := Blk.cell (unhide HB) 2
  have f := Blk.free (unhide HB)
  clear RF
  go_wp2
  have b3 := unhide HB
  have P := putM b3 (.int .i64 0) (.int .i64 0) (.slice none 0 0)
  generalize (((w2.setCell ⟨w.heap.size + 1 + 1 + 1, 0, none⟩ (.int .i64 0)).setCell ⟨w.heap.size + 1 + 1 + 1, 1, none⟩ (.int .i64 0)).setCell ⟨w.heap.size + 1 + 1 + 1, 2, none⟩ (.slice none 0 0)) = wE at *
  have c0 : wE.cell? ⟨w.heap.size + 1 + 1 + 1, 0, none⟩ = some (.int .i64 0) := Blk.cell P.1 0
  have c1 : wE.cell? ⟨w.heap.size + 1 + 1 + 1, 1, none⟩ = some (.int .i64 0) := Blk.cell P.1 1
  have c2 : wE.cell? ⟨w.heap.size + 1 + 1 + 1, 2, none⟩ = some (.slice none 0 0) := Blk.cell P.1 2
  refine bodyPost_ret (v := .tuple #[.agg #[.int .i64 0, .int .i64 0, .slice none 0 0], .int .i64 1]) (by simp [results, Try.results35, go_sem, c0, c1, c2]) rfl ?_
  exact ⟨none, 0, w.heap.size, rfl, Nat.le_refl _, Or.inl rfl, Nat.le_refl _, (Kp.of (unhide HG)).mod P.2 (by omega)⟩


end Go.Proofs.Ytcobicnpdmgnjaa
