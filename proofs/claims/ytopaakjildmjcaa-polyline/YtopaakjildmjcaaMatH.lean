/- Package mat: the func that Mul hands on. -/
import Derived.Test.YtopaakjildmjcaaMatG
import Derived.Test.YtopaakjildmjcaaMatF
import Derived.Deep.RegionHeld3
import Derived.Deep.DrawnRows
namespace Go.Proofs.Ytopaakjildmjcaa
open Go.RowKit Go.Shelf Go.Proofs.Wd
set_option linter.unusedVariables false
set_option linter.unusedSimpArgs false
set_option maxRecDepth 10000

theorem mod_drew (U : Nat) (w : World) : Mod U w w.drew := ⟨rfl, rfl, fun _ _ _ => rfl, fun _ => rfl, Nat.le_refl _⟩
/-- A row of a matrix. -/
theorem row_part {w : World} {b o c i r : Nat} {Z : Nat → Int} (hi : i < r) (hz : ∀ j, j < r * c → w.cell? ⟨b, o + j, none⟩ = some (.int .i64 (Z j))) : Row w (some ⟨b, o + i * c, none⟩) c (rowZ Z c i) := by
  refine Or.inr ⟨b, o + i * c, rfl, fun k hk => ?_⟩
  rw [Nat.add_assoc]
  exact hz _ (place_in _ _ _ _ hi hk)

set_option maxRecDepth 20000 in
set_option maxHeartbeats 4000000 in
theorem mul1 (U : Nat) (cc : Bool) (nn : Int) (hn : 0 ≤ nn ∧ nn < 2305843009213693952) (r m c i k b o cap L Bu Ba Bc : Nat) (A T : Nat → Int) (hr : 1 ≤ r ∧ r ≤ 12) (hm : 1 ≤ m ∧ m ≤ 12) (hc : 1 ≤ c ∧ c ≤ 12) (hi : i < r) (hk : k < c) (hcap : r * m ≤ cap)
    (hA : ∀ j, j < r * m → I64 (A j)) (hT : ∀ j, j < c * m → I64 (T j)) (w : World) (h : UC U cc nn w) (hBu : Blk Bu #[.pointer (some ⟨U, 0, none⟩)] 22 w) (hBa : Blk Ba #[.int .i64 r, .int .i64 m, .slice (some ⟨b, o, none⟩) (r * m) cap] 26 w) (hBc : Blk Bc #[.int .i64 c, .int .i64 m, .slice (some ⟨L, 0, none⟩) (c * m) (c * m)] 26 w)
    (za : ∀ j, j < r * m → w.cell? ⟨b, o + j, none⟩ = some (.int .i64 (A j))) (zt : ∀ j, j < c * m → w.cell? ⟨L, 0 + j, none⟩ = some (.int .i64 (T j))) (n1 : Bu ≠ U) (n2 : Ba ≠ U) (n3 : Bc ≠ U) (n4 : b ≠ U) (n5 : L ≠ U) :
    Calls Try.prog 36 #[.int .i64 (i : Int), .int .i64 (k : Int), .pointer (some ⟨Bu, 0, none⟩), .pointer (some ⟨Ba, 0, none⟩), .pointer (some ⟨Bc, 0, none⟩)] w fun e w' => e = .returned (.int .i64 (dotN (rowZ A m i) (rowZ T m k) m)) ∧ UC U (cc || dotC (rowZ A m i) (rowZ T m k) m) (nn + 2 * m) w' ∧ Mk U w w' := by
  have P1 : Hid (∀ w, Calls Try.prog 38 #[.agg #[.int .i64 r, .int .i64 m, .slice (some ⟨b, o, none⟩) (r * m) cap], .int .i64 i] w fun e w' => e = .returned (.slice (some ⟨b, o + i * m, none⟩) m m) ∧ Grown w w') := fun w =>
    (matPart r m i b o cap hr hm hi hcap w).mono fun e w' h => ⟨h.1, by rw [h.2]; exact (Grown.refl _).alloc _ _⟩
  have P2 : Hid (∀ w, Calls Try.prog 38 #[.agg #[.int .i64 c, .int .i64 m, .slice (some ⟨L, 0, none⟩) (c * m) (c * m)], .int .i64 k] w fun e w' => e = .returned (.slice (some ⟨L, k * m, none⟩) m m) ∧ Grown w w') := fun w =>
    (matPart c m k L 0 (c * m) hc hm hk (Nat.le_refl _) w).mono fun e w' h => ⟨by rw [h.1, Nat.zero_add], by rw [h.2]; exact (Grown.refl _).alloc _ _⟩
  have D : Hid (∀ wx, UC U cc nn wx → Mod U w wx → Calls Try.prog 37 #[.pointer (some ⟨U, 0, none⟩), .slice (some ⟨b, o + i * m, none⟩) m m, .slice (some ⟨L, k * m, none⟩) m m] wx fun e w' => e = .returned (.int .i64 (dotN (rowZ A m i) (rowZ T m k) m)) ∧ UC U (cc || dotC (rowZ A m i) (rowZ T m k) m) (nn + 2 * m) w' ∧ Mod U wx w') := fun wx hu mu => by
    have r1 := row_part hi (fun j hj => mu.cell (za j hj) n4)
    have r2 := row_part hk (fun j hj => mu.cell (zt j hj) n5)
    rw [Nat.zero_add] at r2
    exact matDot U cc nn _ _ m m m _ _ hn (by omega) (fun j hj => hA _ (place_in _ _ _ _ hi hj)) (fun j hj => hT _ (place_in _ _ _ _ hk hj)) wx hu r1 (fun _ a e => by cases e; exact n4) r2 (fun _ a e => by cases e; exact n5)
  obtain ⟨d, hd⟩ : ∃ d, dotN (rowZ A m i) (rowZ T m k) m = d := ⟨_, rfl⟩
  obtain ⟨g, hg⟩ : ∃ g, dotC (rowZ A m i) (rowZ T m k) m = g := ⟨_, rfl⟩
  rw [hd, hg] at D
  rw [hd, hg]
  have CW : Hid (∀ wx, Mod U w wx → wx.cell? ⟨Bu, 0, none⟩ = some (.pointer (some ⟨U, 0, none⟩)) ∧ wx.cell? ⟨Ba, 0, none⟩ = some (.int .i64 r) ∧ wx.cell? ⟨Ba, 1, none⟩ = some (.int .i64 m) ∧ wx.cell? ⟨Ba, 2, none⟩ = some (.slice (some ⟨b, o, none⟩) (r * m) cap) ∧ wx.cell? ⟨Bc, 0, none⟩ = some (.int .i64 c) ∧ wx.cell? ⟨Bc, 1, none⟩ = some (.int .i64 m) ∧ wx.cell? ⟨Bc, 2, none⟩ = some (.slice (some ⟨L, 0, none⟩) (c * m) (c * m))) := fun wx mu =>
    ⟨Blk.cell (Blk.keep hBu mu n1) 0, Blk.cell (Blk.keep hBa mu n2) 0, Blk.cell (Blk.keep hBa mu n2) 1, Blk.cell (Blk.keep hBa mu n2) 2, Blk.cell (Blk.keep hBc mu n3) 0, Blk.cell (Blk.keep hBc mu n3) 1, Blk.cell (Blk.keep hBc mu n3) 2⟩
  have H : Hid (UC U cc nn w.drew) := h
  obtain ⟨x1, x2, x3, x4, x5, x6, x7⟩ := unhide CW w (Mod.refl _ _)
  obtain ⟨la, hla⟩ : ∃ q, r * m = q := ⟨_, rfl⟩
  obtain ⟨lc, hlc⟩ : ∃ q, c * m = q := ⟨_, rfl⟩
  obtain ⟨oi, hoi⟩ : ∃ q, o + i * m = q := ⟨_, rfl⟩
  obtain ⟨ok, hok⟩ : ∃ q, k * m = q := ⟨_, rfl⟩
  rw [hla, hlc] at CW
  rw [hla] at x4 P1
  rw [hlc] at x7 P2
  rw [hoi] at P1 D
  rw [hok] at P2 D
  clear h hBu hBa hBc za zt hA hT hn hr hm hc hi hk hcap hd hg hla hlc hoi hok n1 n2 n3 n4 n5
  go_enter Try.func36, Try.ntmps36
  go_wp2
  go_region_held3 (fun w' => w'.cell? ⟨Bu, 0, none⟩ = some (.pointer (some ⟨U, 0, none⟩)) ∧ w'.cell? ⟨Ba, 0, none⟩ = some (.int .i64 r) ∧ w'.cell? ⟨Ba, 1, none⟩ = some (.int .i64 m) ∧ w'.cell? ⟨Ba, 2, none⟩ = some (.slice (some ⟨b, o, none⟩) la cap) ∧ w'.cell? ⟨Bc, 0, none⟩ = some (.int .i64 c) ∧ w'.cell? ⟨Bc, 1, none⟩ = some (.int .i64 m) ∧ w'.cell? ⟨Bc, 2, none⟩ = some (.slice (some ⟨L, 0, none⟩) lc lc))
      (simp [go_sem, *])
      (first
        | (go_at_call 37; refine (unhide D _ (unhide U3) (unhide M3)).mono ?_; rintro e w4 ⟨rfl, h4, m4⟩; obtain ⟨t1, t2, t3, t4, t5, t6, t7⟩ := unhide CW w4 ((unhide M3).trans m4); have R4 : Hid (UC U (cc || g) (nn + 2 * m) w4 ∧ Mk U w w4) := ⟨h4, Mk.of ((unhide M3).trans m4)⟩; clear h4 m4 D)
        | (go_at_call 38; refine (unhide P1 _).mono ?_; clear P1; rintro e w2 ⟨rfl, m2⟩; have M2 : Hid (Mod U w w2) := (mod_drew U w).trans (Mod.of m2); have U2 : Hid (UC U cc nn w2) := Blk.grown (unhide H) m2; obtain ⟨y1, y2, y3, y4, y5, y6, y7⟩ := unhide CW w2 (unhide M2); clear m2)
        | (go_at_call 38; refine (unhide P2 _).mono ?_; clear P2; rintro e w3 ⟨rfl, m3⟩; have M3 : Hid (Mod U w w3) := (unhide M2).trans (Mod.of m3); have U3 : Hid (UC U cc nn w3) := Blk.grown (unhide U2) m3; obtain ⟨z1, z2, z3, z4, z5, z6, z7⟩ := unhide CW w3 (unhide M3); clear m3))
  go_wp2
  go_ret
  exact ⟨rfl, unhide R4⟩

end Go.Proofs.Ytopaakjildmjcaa
