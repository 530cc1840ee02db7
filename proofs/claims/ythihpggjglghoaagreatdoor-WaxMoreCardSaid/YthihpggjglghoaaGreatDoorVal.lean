/- The examples' values. -/
import Derived.Test.YthihpggjglghoaaGreatDoorTb
import Derived.Test.YthihpggjglghoaaGreatDoorSold
import Derived.Test.YthihpggjglghoaaGreatDoorDet
import Derived.Test.YthihpggjglghoaaGreatDoorWriteA
import Derived.Test.YthihpggjglghoaaGreatDoorRft
namespace Go.Proofs.YthihpggjglghoaaGreatDoor
open Go.RowKit Go.Shelf

def textB : ByteArray := ⟨#[116, 101, 115, 116, 115, 32, 109, 101, 108, 116, 32, 53, 32, 97, 99, 105, 100, 32, 50, 10, 112, 117, 114, 101, 32, 57, 53, 48, 10, 98, 101, 101, 115, 32, 54, 50, 48, 32, 54, 52, 48, 32, 49, 55, 32, 50, 50, 10, 112, 97, 114, 97, 102, 102, 105, 110, 32, 53, 52, 48, 32, 53, 56, 48, 32, 48, 32, 48, 10, 116, 97, 108, 108, 111, 119, 32, 52, 50, 48, 32, 52, 54, 48, 32, 50, 32, 49, 48, 10]⟩
theorem v_name1 : nameB ⟨#[98, 101, 101, 115, 45, 119, 97, 120]⟩ = true := by kernel_rfl
theorem v_name2 : nameB ⟨#[98, 101, 101, 115, 45]⟩ = false := by kernel_rfl
theorem v_check (a0 a1 a2 : Option Addr) : checkT (TT a0 a1 a2) = (0, 0, 0) := by kernel_rfl
theorem v_mixed1 (a0 a1 a2 : Option Addr) : mixedV (TT a0 a1 a2) [615, 16] 0 1 = ((637, 1000), 0) := by kernel_rfl
theorem v_mixed2 (a0 a1 a2 : Option Addr) : mixedV (TT a0 a1 a2) [615, 16] 1 2 = ((0, 0), 9) := by kernel_rfl
theorem v_mixed3 (a0 a1 a2 : Option Addr) : mixedV (TT a0 a1 a2) [615, 16] 0 2 = ((834, 1000), 0) := by kernel_rfl
theorem v_sold1 (a0 a1 a2 : Option Addr) : soldV (TT a0 a1 a2) [643, 16] 0 = ((967, 1000), 1, 0) := by kernel_rfl
theorem v_sold2 (a0 a1 a2 : Option Addr) : soldV (TT a0 a1 a2) [615, 16] 0 = ((637, 1000), 2, 0) := by kernel_rfl
theorem v_sold3 (a0 a1 a2 : Option Addr) : soldV (TT a0 a1 a2) [600, 9] 0 = ((319, 647), 0, 0) := by kernel_rfl
theorem v_within1 (a0 a1 a2 : Option Addr) : withinV (TT a0 a1 a2) [600, 9] = (([0, 1], [0, 1]), 0) := by kernel_rfl
theorem v_within2 (a0 a1 a2 : Option Addr) : withinV (TT a0 a1 a2) [615, 16] = (([0], [0, 1, 2]), 0) := by kernel_rfl
theorem v_detect1 (a0 a1 a2 : Option Addr) : detectV (TT a0 a1 a2) 0 1 = (410, 0) := by kernel_rfl
theorem v_detect2 (a0 a1 a2 : Option Addr) : detectV (TT a0 a1 a2) 1 0 = (236, 0) := by kernel_rfl
theorem v_sets (a0 a1 a2 : Option Addr) : setsT (TT a0 a1 a2) [615, 16] = ([1, 3, 5], 0) := by kernel_rfl
theorem v_write (a0 a1 a2 : Option Addr) : writeV (TT a0 a1 a2) = (textB, 0) := by kernel_rfl
theorem v_read : readV textB = (some ([⟨nmMelt, 5⟩, ⟨nmAcid, 2⟩], 950, [(nmBees, [(620, 640), (17, 22)]), (nmPara, [(540, 580), (0, 0)]), (nmTall, [(420, 460), (2, 10)])]), 0) := by kernel_rfl
end Go.Proofs.YthihpggjglghoaaGreatDoor
