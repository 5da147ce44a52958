/- Blocks as plain data: valid, the same. -/
import Derived.Test.YtlhcckjfgpcohaaGreatDoorLabP
namespace Go.Proofs.YtlhcckjfgpcohaaGreatDoor
structure Blk where
  id : Int
  kd : Int
  tx : List UInt8
  st : Int
  rf : Int
  lb : Lab
def prB (c : UInt8) : Bool := decide (32 ≤ c.toNat ∧ c.toNat ≤ 126)
def nmB (c : UInt8) : Bool := decide (97 ≤ c.toNat ∧ c.toNat ≤ 122) || (decide (48 ≤ c.toNat ∧ c.toNat ≤ 57) || decide (c.toNat = 45))
def inB (n lo hi : Int) : Bool := decide (lo ≤ n ∧ n ≤ hi)
def textB (t : List UInt8) : Bool := decide (t.length ≤ 300) && t.all prB
def fillB (t : List UInt8) : Bool := decide (t ≠ []) && textB t
def nameB (t : List UInt8) : Bool := inB (t.length : Int) 1 20 && t.all nmB
def noSrc (st rf : Int) : Bool := decide (st = 0) && decide (rf = 0)
def srcB (st rf : Int) : Bool := inB st 1 64 && inB rf 1 1000
def kindT (k : Int) (t : List UInt8) : Bool := if k = 3 then textB t else if k = 5 then nameB t else fillB t
def kindS (k st rf : Int) : Bool := if k = 3 then srcB st rf else noSrc st rf
def vB (b : Blk) : Bool := inB b.kd 1 5 && (inB b.id 1 1000 && (kindT b.kd b.tx && (kindS b.kd b.st b.rf && validB b.lb)))
def vL (l : List Blk) : Bool := decide (l.length ≤ 24) && (l.all vB && decide ((l.map Blk.id).Nodup))
def sB (a b : Blk) : Bool := decide (a.id = b.id) && (decide (a.kd = b.kd) && (decide (a.tx = b.tx) && (decide (a.st = b.st) && (decide (a.rf = b.rf) && sameB a.lb b.lb))))
def sL : List Blk → List Blk → Bool
  | [], [] => true
  | a :: l, b :: m => sB a b && sL l m
  | _, _ => false
theorem blk_ext {a b : Blk} (h1 : a.id = b.id) (h2 : a.kd = b.kd) (h3 : a.tx = b.tx) (h4 : a.st = b.st) (h5 : a.rf = b.rf) (h6 : a.lb = b.lb) : a = b := by cases a; cases b; simp_all
theorem sB_iff (a b : Blk) : sB a b = true ↔ a = b := by
  constructor
  · intro h
    simp only [sB, Bool.and_eq_true, decide_eq_true_eq, sameB_iff] at h
    exact blk_ext h.1 h.2.1 h.2.2.1 h.2.2.2.1 h.2.2.2.2.1 h.2.2.2.2.2
  · rintro rfl; simp [sB, (sameB_iff _ _).2 rfl]
theorem sL_iff : ∀ (l m : List Blk), sL l m = true ↔ l = m
  | [], [] => by simp [sL]
  | [], b :: m => by simp [sL]
  | a :: l, [] => by simp [sL]
  | a :: l, b :: m => by simp [sL, sB_iff, sL_iff l m]
theorem sL_self (l : List Blk) : sL l l = true := (sL_iff l l).2 rfl

end Go.Proofs.YtlhcckjfgpcohaaGreatDoor
