/- What the library's functions answer, at this dump. -/
import Derived.Test.YtnelkhmahmoclaaGreatDoorShelf
import Derived.Test.YtnelkhmahmoclaaGreatDoorRowA
import Derived.Test.YtnelkhmahmoclaaGreatDoorTextPM
import Derived.Laws.IdiomStrings
namespace Go.Proofs.YtnelkhmahmoclaaGreatDoor
open Go.RowKit Go.Shelf Go.Proofs.Wd
set_option linter.unusedVariables false
set_option linter.unusedSimpArgs false
set_option maxRecDepth 10000

theorem Kp.below {w w' : World} (h : Below w.heap.size w w') : Kp w w' := ⟨h.os, h.output, h.block, h.size⟩
theorem libTrim0 (S : ByteArray) (hs : S.size ≤ 1000000) (w : World) : Calls Tryz.prog 31 #[.string S, .string ⟨#[48]⟩] w fun e w' => e = .returned (.string ⟨(Lib.trimRightB S.data.toList 48).toArray⟩) ∧ w' = w :=
  Any.strings_TrimRight_one Tryz.lays162 S 48 (by decide) w (by omega)
theorem libTrim (S : ByteArray) (hs : S.size ≤ 1000000) (w : World) : Calls Tryz.prog 64 #[.string S, .string ⟨#[48, 49, 50, 51, 52, 53, 54, 55, 56, 57]⟩] w fun e w' => e = .returned (.string ⟨(Lib.trimS S.data.toList digitsL).toArray⟩) ∧ Kp w w' :=
  (Any.strings_Trim_laid Tryz.lays160 (by kernel_rfl) S ⟨#[48, 49, 50, 51, 52, 53, 54, 55, 56, 57]⟩ w (by omega) (by decide) (ascii_of_all (by decide))).mono fun e w' h => ⟨h.1, Kp.below h.2⟩
theorem libPrefix (S : ByteArray) (w : World) : Calls Tryz.prog 36 #[.string S, .string ⟨#[45]⟩] w fun e w' => e = .returned (.tuple #[.string ⟨(Lib.trimPrefix S.data.toList [45]).toArray⟩, .bool (Lib.hasPrefix S.data.toList [45])]) ∧ w' = w :=
  Any.strings_CutPrefix Tryz.lays103 S ⟨#[45]⟩ w
theorem libIndex (S : ByteArray) (c : UInt8) (w : World) : Calls Tryz.prog 80 #[.string S, .string ⟨#[c]⟩] w fun e w' => e = .returned (.int .i64 (Lib.indexByte S.data.toList c)) ∧ w' = w :=
  Any.stringslite_Index_one Tryz.lays219 S c w
theorem libAtoi (S : ByteArray) (n : Int) (hl : S.size ≤ 18) (h : Lib.atoi S.data.toList = some n) (w : World) : Calls Tryz.prog 65 #[.string S] w fun e w' => e = .returned (.tuple #[.int .i64 n, .nilIface]) ∧ Kp w w' :=
  (Any.strconv_Atoi Tryz.lays172 S n hl h w).mono fun e w' h => ⟨h.1, by obtain ⟨t, rfl⟩ := h.2; exact ⟨rfl, rfl, fun k hk => Lib.bytesWorld_at_old w _ t k hk, by rw [Lib.bytesWorld_size]; omega⟩⟩
theorem libRepeat (S : ByteArray) (c : Nat) (hc : c ≤ 1000) (hs : S.size ≤ 1000) (w : World) : Calls Tryz.prog 66 #[.string S, .int .i64 c] w fun e w' => e = .returned (.string ⟨(Lib.repeatL S.data.toList c).toArray⟩) ∧ Kp w w' :=
  (Any.strings_Repeat Tryz.lays105 Tryz.Builder_Extra_105 S c w (by omega) (by have := Nat.mul_le_mul hs hc; omega)).mono fun e w' h => ⟨h.1, Kp.below h.2⟩
theorem libJoin (bk o c : Nat) (xs : List ByteArray) (w : World) (hcells : ∀ (j : Nat) x, xs[j]? = some x → w.cell? ⟨bk, o + j, none⟩ = some (.string x)) (hbk : bk < w.heap.size) (hN : xs.length ≤ 140737488355328) (hcap : xs.length ≤ c)
    (hlen : (Lib.join (xs.map (·.data.toList)) [32]).length ≤ 140737488355328) :
    Calls Tryz.prog 35 #[.slice (some ⟨bk, o, none⟩) xs.length c, .string ⟨#[32]⟩] w fun e w' => e = .returned (.string ⟨(Lib.join (xs.map (·.data.toList)) [32]).toArray⟩) ∧ Kp w w' :=
  (Any.strings_Join Tryz.lays156 Tryz.Builder_Extra_156 bk o c xs ⟨#[32]⟩ w hcells hbk hN hcap hlen).mono fun e w' h => ⟨h.1, Kp.below h.2⟩
theorem libJoin0 (a : Option Addr) (c : Nat) (w : World) : Calls Tryz.prog 35 #[.slice a 0 c, .string ⟨#[32]⟩] w fun e w' => e = .returned (.string ⟨#[]⟩) ∧ w' = w :=
  Any.strings_Join_none Tryz.lays156 Tryz.Builder_Extra_156 a c ⟨#[32]⟩ w
theorem libReverse (blk off cap : Nat) (zs : List UInt8) (w : World) (hH : Sort.Holds (fun x : UInt8 => Value.int .u8 x.toNat) w blk off zs.toArray) (hsz : zs.length ≤ 1000000) :
    Calls Tryz.prog 58 #[.slice (some ⟨blk, off, none⟩) zs.length cap] w fun e w' => e = .returned (.tuple #[]) ∧ Mod blk w w' ∧ ∀ i, i < zs.length → w'.cell? ⟨blk, off + i, none⟩ = some (.int .u8 ((zs.reverse.getD i 0).toNat : Int)) :=
  (AnyE.slices_Reverse Tryz.revB (fun x : UInt8 => Value.int .u8 x.toNat) (fun _ => rfl) blk off cap zs w hH (by omega)).mono fun e w' h => by
    obtain ⟨h1, n, rfl⟩ := h
    refine ⟨h1, ⟨rfl, rfl, fun k hk hne => ?_, fun a => ?_, ?_⟩, fun i hi => ?_⟩
    · simp [Sort.putRow, Sort.mapBlock, Sort.ahead, Array.getElem?_modify, Ne.symm hne]
    · rw [Sort.frozen?_putRow]
      rfl
    · simp [Sort.putRow, Sort.mapBlock, Sort.ahead]
    · have hh : Sort.Holds (fun x : UInt8 => Value.int .u8 x.toNat) (Sort.ahead w n) blk off zs.toArray := fun j hj => hH j hj
      rw [Sort.cell?_putRow _ _ _ _ zs.toArray zs.reverse.toArray hh (by simp) i (by simpa using hi)]
      have hi' : i < zs.reverse.length := by simpa using hi
      simp only [List.getD, List.getElem?_eq_getElem hi', Option.getD_some]
      rw [getElem!_pos _ i (by simpa using hi)]
      simp
theorem ext_all (S : ByteArray) : (⟨S.data.toList.toArray⟩ : ByteArray) = S := rfl
theorem ext_to (S : ByteArray) (a : Nat) (h : a ≤ S.size) : S.extract 0 a = ⟨(S.data.toList.take a).toArray⟩ := by
  apply ByteArray.ext
  rw [ByteArray.data_extract]
  apply Array.ext'
  simp
theorem ext_from (S : ByteArray) (a : Nat) : S.extract a S.size = ⟨(S.data.toList.drop a).toArray⟩ := by
  apply ByteArray.ext
  rw [ByteArray.data_extract]
  apply Array.ext'
  rw [Array.toList_extract, List.extract_eq_take_drop]
  have : S.size - a = (S.data.toList.drop a).length := by rw [List.length_drop, Array.length_toList]; rfl
  rw [this, List.take_length]

set_option maxHeartbeats 400000 in
theorem liteCut (S : ByteArray) (c : UInt8) (hs : S.size ≤ 1000000) (w : World) : Calls Tryz.prog 63 #[.string S, .string ⟨#[c]⟩] w fun e w' => e = .returned (.tuple #[.string ⟨(S.data.toList.take (fi c S.data.toList)).toArray⟩, .string ⟨(S.data.toList.drop (fi c S.data.toList + 1)).toArray⟩, .bool (decide (fi c S.data.toList < S.data.toList.length))]) ∧ Grown w w' := by
  have hle := fi_le c S.data.toList
  have hx := index_fi c S.data.toList
  have hsz : S.data.toList.length = S.size := by rw [Array.length_toList]; rfl
  have I := hide (fun w => libIndex S c w)
  generalize hj : fi c S.data.toList = j at *
  by_cases h : j < S.data.toList.length
  · rw [if_pos h] at hx
    rw [hx] at I
    have e1 := hide (ext_to S j (by omega))
    have e2 := hide (ext_from S (j + 1))
    have c1 : (0 : Int) ≤ ↑j := by omega
    have c2 : (↑j : Int) ≤ ↑S.size := by omega
    have c3 : (0 : Int) ≤ ↑j + 1 := by omega
    have c4 : (↑j + 1 : Int) ≤ ↑S.size := by omega
    have HD := hide h
    clear hx hsz hle hj h
    go_enter Tryz.func63, Tryz.ntmps63
    go_wp2_with fail
    refine (unhide I _).mono ?_
    rintro e w1 ⟨rfl, rfl⟩
    go_wp2
    go_region
    go_wp2
    go_ret3
    rw [← unhide e1, ← unhide e2, decide_eq_true (unhide HD)]
    exact ⟨rfl, (Grown.refl _).drew⟩
  · rw [if_neg h] at hx
    rw [hx] at I
    have hjj : j = S.data.toList.length := by omega
    have e1 : S.data.toList.take j = S.data.toList := by rw [hjj, List.take_length]
    have e2 : S.data.toList.drop (j + 1) = [] := List.drop_eq_nil_of_le (by omega)
    rw [e1, e2, decide_eq_false h]
    clear hx hsz hle hj h e1 e2 hjj
    go_enter Tryz.func63, Tryz.ntmps63
    go_wp2_with fail
    refine (unhide I _).mono ?_
    rintro e w1 ⟨rfl, rfl⟩
    go_wp2
    go_ret3
    exact ⟨rfl, Grown.refl _⟩

set_option maxHeartbeats 400000 in
theorem libCut (S : ByteArray) (c : UInt8) (hs : S.size ≤ 1000000) (w : World) : Calls Tryz.prog 37 #[.string S, .string ⟨#[c]⟩] w fun e w' => e = .returned (.tuple #[.string ⟨(S.data.toList.take (fi c S.data.toList)).toArray⟩, .string ⟨(S.data.toList.drop (fi c S.data.toList + 1)).toArray⟩, .bool (decide (fi c S.data.toList < S.data.toList.length))]) ∧ Grown w w' := by
  have I := hide (fun w => liteCut S c hs w)
  obtain ⟨A, hA⟩ : ∃ A : ByteArray, ⟨(S.data.toList.take (fi c S.data.toList)).toArray⟩ = A := ⟨_, rfl⟩
  obtain ⟨B, hB⟩ : ∃ B : ByteArray, ⟨(S.data.toList.drop (fi c S.data.toList + 1)).toArray⟩ = B := ⟨_, rfl⟩
  generalize decide (fi c S.data.toList < S.data.toList.length) = d at *
  rw [hA, hB] at I
  rw [hA, hB]
  clear hA hB
  go_enter Tryz.func37, Tryz.ntmps37
  go_wp2_with fail
  refine (unhide I _).mono ?_
  rintro e w1 ⟨rfl, g⟩
  go_wp2
  go_ret3
  exact ⟨rfl, g⟩

end Go.Proofs.YtnelkhmahmoclaaGreatDoor
