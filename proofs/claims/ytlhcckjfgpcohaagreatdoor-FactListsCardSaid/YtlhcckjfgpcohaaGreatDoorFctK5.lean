/- Package fact: Same. -/
import Derived.Test.YtlhcckjfgpcohaaGreatDoorFctK0
import Derived.Test.YtlhcckjfgpcohaaGreatDoorShelf
namespace Go.Proofs.YtlhcckjfgpcohaaGreatDoor
open Go.RowKit
set_option maxRecDepth 100000
set_option linter.unusedSimpArgs false
set_option linter.unusedVariables false
set_option maxHeartbeats 4000000 in
theorem same_ed (xn xtm xkd xst xrv xbs xed xbk xse xpt xcl xun yn ytm ykd yst yrv ybs yed ybk yse ypt ycl yun xu xap xd yu yap yd : Int) (sxlg sxti sxau sxtx sxnm sylg syti syau sytx synm : ByteArray) (xta xba xla yta yba yla : Option Addr) (xtn xtc xbn xbc xln xlc ytn ytc ybn ybc yln ylc : Nat) (w : World) (g0 : (xn == yn) = true) (g1 : (xtm == ytm) = true) (g2 : (xkd == ykd) = true) (g3 : (xst == yst) = true) (g4 : sxlg.toList = sylg.toList) (g5 : (xrv == yrv) = true) (g6 : (xbs == ybs) = true) (g7 : sxti.toList = syti.toList) (g8 : sxau.toList = syau.toList) (g12 : (xed == yed) = false) (KT : Hid (∀ W : World, Below w.heap.size w W → Calls Tryz.prog 27 #[.slice xta xtn xtc, .slice yta ytn ytc] W fun e w' => e = .returned (.bool true) ∧ Below W.heap.size W w')) (KB : Hid (∀ W : World, Below w.heap.size w W → Calls Tryz.prog 28 #[.slice xba xbn xbc, .slice yba ybn ybc] W fun e w' => e = .returned (.bool true) ∧ Below W.heap.size W w')) (KL : Hid (∀ W : World, Below w.heap.size w W → Calls Tryz.prog 29 #[.agg #[.int .i64 xu, .slice xla xln xlc, .int .i64 xap, .int .i64 xd], .agg #[.int .i64 yu, .slice yla yln ylc, .int .i64 yap, .int .i64 yd]] W fun e w' => e = .returned (.bool true) ∧ Below W.heap.size W w')) :
    Calls Tryz.prog 15 #[.agg #[.int .i64 xn, .int .i64 xtm, .int .i64 xkd, .int .i64 xst, .string sxlg, .int .i64 xrv, .int .i64 xbs, .string sxti, .string sxau, .slice xta xtn xtc, .slice xba xbn xbc, .int .i64 xu, .slice xla xln xlc, .int .i64 xap, .int .i64 xd, .int .i64 xed, .int .i64 xbk, .int .i64 xse, .string sxtx, .string sxnm, .int .i64 xpt, .int .i64 xcl, .int .i64 xun], .agg #[.int .i64 yn, .int .i64 ytm, .int .i64 ykd, .int .i64 yst, .string sylg, .int .i64 yrv, .int .i64 ybs, .string syti, .string syau, .slice yta ytn ytc, .slice yba ybn ybc, .int .i64 yu, .slice yla yln ylc, .int .i64 yap, .int .i64 yd, .int .i64 yed, .int .i64 ybk, .int .i64 yse, .string sytx, .string synm, .int .i64 ypt, .int .i64 ycl, .int .i64 yun]] w fun e w' => e = .returned (.bool false) ∧ Below w.heap.size w w' := by
  have B0 := Lib.hid (two_below w (.cells #[.int .i64 xn, .int .i64 xtm, .int .i64 xkd, .int .i64 xst, .string sxlg, .int .i64 xrv, .int .i64 xbs, .string sxti, .string sxau, .slice xta xtn xtc, .slice xba xbn xbc, .int .i64 xu, .slice xla xln xlc, .int .i64 xap, .int .i64 xd, .int .i64 xed, .int .i64 xbk, .int .i64 xse, .string sxtx, .string sxnm, .int .i64 xpt, .int .i64 xcl, .int .i64 xun] 28) (.cells #[.int .i64 yn, .int .i64 ytm, .int .i64 ykd, .int .i64 yst, .string sylg, .int .i64 yrv, .int .i64 ybs, .string syti, .string syau, .slice yta ytn ytc, .slice yba ybn ybc, .int .i64 yu, .slice yla yln ylc, .int .i64 yap, .int .i64 yd, .int .i64 yed, .int .i64 ybk, .int .i64 yse, .string sytx, .string synm, .int .i64 ypt, .int .i64 ycl, .int .i64 yun] 28))
  have HG := Lib.hid (allocs_get w [(.cells #[.int .i64 xn, .int .i64 xtm, .int .i64 xkd, .int .i64 xst, .string sxlg, .int .i64 xrv, .int .i64 xbs, .string sxti, .string sxau, .slice xta xtn xtc, .slice xba xbn xbc, .int .i64 xu, .slice xla xln xlc, .int .i64 xap, .int .i64 xd, .int .i64 xed, .int .i64 xbk, .int .i64 xse, .string sxtx, .string sxnm, .int .i64 xpt, .int .i64 xcl, .int .i64 xun] 28 (0, 0)), (.cells #[.int .i64 yn, .int .i64 ytm, .int .i64 ykd, .int .i64 yst, .string sylg, .int .i64 yrv, .int .i64 ybs, .string syti, .string syau, .slice yta ytn ytc, .slice yba ybn ybc, .int .i64 yu, .slice yla yln ylc, .int .i64 yap, .int .i64 yd, .int .i64 yed, .int .i64 ybk, .int .i64 yse, .string sytx, .string synm, .int .i64 ypt, .int .i64 ycl, .int .i64 yun] 28 (0, 0))])
  go_enter Tryz.func15, Tryz.ntmps15
  go_wp2_with fail
  refine (KT.out _ B0.out).mono ?_
  rintro e wtp ⟨rfl, bq⟩
  replace B0 := Lib.hid (bel2 B0.out bq)
  have GX := Lib.hid (show wtp.heap[w.heap.size]? = some (.cells #[.int .i64 xn, .int .i64 xtm, .int .i64 xkd, .int .i64 xst, .string sxlg, .int .i64 xrv, .int .i64 xbs, .string sxti, .string sxau, .slice xta xtn xtc, .slice xba xbn xbc, .int .i64 xu, .slice xla xln xlc, .int .i64 xap, .int .i64 xd, .int .i64 xed, .int .i64 xbk, .int .i64 xse, .string sxtx, .string sxnm, .int .i64 xpt, .int .i64 xcl, .int .i64 xun] 28 (0, 0)) from blockOver bq (HG.out 0))
  have GY := Lib.hid (show wtp.heap[w.heap.size + 1]? = some (.cells #[.int .i64 yn, .int .i64 ytm, .int .i64 ykd, .int .i64 yst, .string sylg, .int .i64 yrv, .int .i64 ybs, .string syti, .string syau, .slice yta ytn ytc, .slice yba ybn ybc, .int .i64 yu, .slice yla yln ylc, .int .i64 yap, .int .i64 yd, .int .i64 yed, .int .i64 ybk, .int .i64 yse, .string sytx, .string synm, .int .i64 ypt, .int .i64 ycl, .int .i64 yun] 28 (0, 0)) from blockOver bq (HG.out 1))
  have x10 : wtp.cell? ⟨w.heap.size, 10, none⟩ = some (.slice xba xbn xbc) := by rw [Joins.cell_of_block GX.out]; rfl
  have y10 : wtp.cell? ⟨w.heap.size + 1, 10, none⟩ = some (.slice yba ybn ybc) := by rw [Joins.cell_of_block GY.out]; rfl
  clear bq
  go_wp2_with fail
  refine (KB.out _ B0.out).mono ?_
  rintro e wbl ⟨rfl, bq⟩
  replace B0 := Lib.hid (bel2 B0.out bq)
  replace GX := Lib.hid (blockOver bq GX.out)
  replace GY := Lib.hid (blockOver bq GY.out)
  have x11 : wbl.cell? ⟨w.heap.size, 11, none⟩ = some (.int .i64 xu) := by rw [Joins.cell_of_block GX.out]; rfl
  have x12 : wbl.cell? ⟨w.heap.size, 12, none⟩ = some (.slice xla xln xlc) := by rw [Joins.cell_of_block GX.out]; rfl
  have x13 : wbl.cell? ⟨w.heap.size, 13, none⟩ = some (.int .i64 xap) := by rw [Joins.cell_of_block GX.out]; rfl
  have x14 : wbl.cell? ⟨w.heap.size, 14, none⟩ = some (.int .i64 xd) := by rw [Joins.cell_of_block GX.out]; rfl
  have y11 : wbl.cell? ⟨w.heap.size + 1, 11, none⟩ = some (.int .i64 yu) := by rw [Joins.cell_of_block GY.out]; rfl
  have y12 : wbl.cell? ⟨w.heap.size + 1, 12, none⟩ = some (.slice yla yln ylc) := by rw [Joins.cell_of_block GY.out]; rfl
  have y13 : wbl.cell? ⟨w.heap.size + 1, 13, none⟩ = some (.int .i64 yap) := by rw [Joins.cell_of_block GY.out]; rfl
  have y14 : wbl.cell? ⟨w.heap.size + 1, 14, none⟩ = some (.int .i64 yd) := by rw [Joins.cell_of_block GY.out]; rfl
  clear bq
  go_wp2_with fail
  refine (KL.out _ B0.out).mono ?_
  rintro e wlb ⟨rfl, bq⟩
  replace B0 := Lib.hid (bel2 B0.out bq)
  replace GX := Lib.hid (blockOver bq GX.out)
  replace GY := Lib.hid (blockOver bq GY.out)
  have x15 : wlb.cell? ⟨w.heap.size, 15, none⟩ = some (.int .i64 xed) := by rw [Joins.cell_of_block GX.out]; rfl
  have x16 : wlb.cell? ⟨w.heap.size, 16, none⟩ = some (.int .i64 xbk) := by rw [Joins.cell_of_block GX.out]; rfl
  have x17 : wlb.cell? ⟨w.heap.size, 17, none⟩ = some (.int .i64 xse) := by rw [Joins.cell_of_block GX.out]; rfl
  have x18 : wlb.cell? ⟨w.heap.size, 18, none⟩ = some (.string sxtx) := by rw [Joins.cell_of_block GX.out]; rfl
  have x19 : wlb.cell? ⟨w.heap.size, 19, none⟩ = some (.string sxnm) := by rw [Joins.cell_of_block GX.out]; rfl
  have x20 : wlb.cell? ⟨w.heap.size, 20, none⟩ = some (.int .i64 xpt) := by rw [Joins.cell_of_block GX.out]; rfl
  have x21 : wlb.cell? ⟨w.heap.size, 21, none⟩ = some (.int .i64 xcl) := by rw [Joins.cell_of_block GX.out]; rfl
  have x22 : wlb.cell? ⟨w.heap.size, 22, none⟩ = some (.int .i64 xun) := by rw [Joins.cell_of_block GX.out]; rfl
  have y15 : wlb.cell? ⟨w.heap.size + 1, 15, none⟩ = some (.int .i64 yed) := by rw [Joins.cell_of_block GY.out]; rfl
  have y16 : wlb.cell? ⟨w.heap.size + 1, 16, none⟩ = some (.int .i64 ybk) := by rw [Joins.cell_of_block GY.out]; rfl
  have y17 : wlb.cell? ⟨w.heap.size + 1, 17, none⟩ = some (.int .i64 yse) := by rw [Joins.cell_of_block GY.out]; rfl
  have y18 : wlb.cell? ⟨w.heap.size + 1, 18, none⟩ = some (.string sytx) := by rw [Joins.cell_of_block GY.out]; rfl
  have y19 : wlb.cell? ⟨w.heap.size + 1, 19, none⟩ = some (.string synm) := by rw [Joins.cell_of_block GY.out]; rfl
  have y20 : wlb.cell? ⟨w.heap.size + 1, 20, none⟩ = some (.int .i64 ypt) := by rw [Joins.cell_of_block GY.out]; rfl
  have y21 : wlb.cell? ⟨w.heap.size + 1, 21, none⟩ = some (.int .i64 ycl) := by rw [Joins.cell_of_block GY.out]; rfl
  have y22 : wlb.cell? ⟨w.heap.size + 1, 22, none⟩ = some (.int .i64 yun) := by rw [Joins.cell_of_block GY.out]; rfl
  clear bq
  go_wp2
  go_ret
  exact ⟨rfl, B0.out⟩
set_option maxHeartbeats 4000000 in
theorem same_bk (xn xtm xkd xst xrv xbs xed xbk xse xpt xcl xun yn ytm ykd yst yrv ybs yed ybk yse ypt ycl yun xu xap xd yu yap yd : Int) (sxlg sxti sxau sxtx sxnm sylg syti syau sytx synm : ByteArray) (xta xba xla yta yba yla : Option Addr) (xtn xtc xbn xbc xln xlc ytn ytc ybn ybc yln ylc : Nat) (w : World) (g0 : (xn == yn) = true) (g1 : (xtm == ytm) = true) (g2 : (xkd == ykd) = true) (g3 : (xst == yst) = true) (g4 : sxlg.toList = sylg.toList) (g5 : (xrv == yrv) = true) (g6 : (xbs == ybs) = true) (g7 : sxti.toList = syti.toList) (g8 : sxau.toList = syau.toList) (g12 : (xed == yed) = true) (g13 : (xbk == ybk) = false) (KT : Hid (∀ W : World, Below w.heap.size w W → Calls Tryz.prog 27 #[.slice xta xtn xtc, .slice yta ytn ytc] W fun e w' => e = .returned (.bool true) ∧ Below W.heap.size W w')) (KB : Hid (∀ W : World, Below w.heap.size w W → Calls Tryz.prog 28 #[.slice xba xbn xbc, .slice yba ybn ybc] W fun e w' => e = .returned (.bool true) ∧ Below W.heap.size W w')) (KL : Hid (∀ W : World, Below w.heap.size w W → Calls Tryz.prog 29 #[.agg #[.int .i64 xu, .slice xla xln xlc, .int .i64 xap, .int .i64 xd], .agg #[.int .i64 yu, .slice yla yln ylc, .int .i64 yap, .int .i64 yd]] W fun e w' => e = .returned (.bool true) ∧ Below W.heap.size W w')) :
    Calls Tryz.prog 15 #[.agg #[.int .i64 xn, .int .i64 xtm, .int .i64 xkd, .int .i64 xst, .string sxlg, .int .i64 xrv, .int .i64 xbs, .string sxti, .string sxau, .slice xta xtn xtc, .slice xba xbn xbc, .int .i64 xu, .slice xla xln xlc, .int .i64 xap, .int .i64 xd, .int .i64 xed, .int .i64 xbk, .int .i64 xse, .string sxtx, .string sxnm, .int .i64 xpt, .int .i64 xcl, .int .i64 xun], .agg #[.int .i64 yn, .int .i64 ytm, .int .i64 ykd, .int .i64 yst, .string sylg, .int .i64 yrv, .int .i64 ybs, .string syti, .string syau, .slice yta ytn ytc, .slice yba ybn ybc, .int .i64 yu, .slice yla yln ylc, .int .i64 yap, .int .i64 yd, .int .i64 yed, .int .i64 ybk, .int .i64 yse, .string sytx, .string synm, .int .i64 ypt, .int .i64 ycl, .int .i64 yun]] w fun e w' => e = .returned (.bool false) ∧ Below w.heap.size w w' := by
  have B0 := Lib.hid (two_below w (.cells #[.int .i64 xn, .int .i64 xtm, .int .i64 xkd, .int .i64 xst, .string sxlg, .int .i64 xrv, .int .i64 xbs, .string sxti, .string sxau, .slice xta xtn xtc, .slice xba xbn xbc, .int .i64 xu, .slice xla xln xlc, .int .i64 xap, .int .i64 xd, .int .i64 xed, .int .i64 xbk, .int .i64 xse, .string sxtx, .string sxnm, .int .i64 xpt, .int .i64 xcl, .int .i64 xun] 28) (.cells #[.int .i64 yn, .int .i64 ytm, .int .i64 ykd, .int .i64 yst, .string sylg, .int .i64 yrv, .int .i64 ybs, .string syti, .string syau, .slice yta ytn ytc, .slice yba ybn ybc, .int .i64 yu, .slice yla yln ylc, .int .i64 yap, .int .i64 yd, .int .i64 yed, .int .i64 ybk, .int .i64 yse, .string sytx, .string synm, .int .i64 ypt, .int .i64 ycl, .int .i64 yun] 28))
  have HG := Lib.hid (allocs_get w [(.cells #[.int .i64 xn, .int .i64 xtm, .int .i64 xkd, .int .i64 xst, .string sxlg, .int .i64 xrv, .int .i64 xbs, .string sxti, .string sxau, .slice xta xtn xtc, .slice xba xbn xbc, .int .i64 xu, .slice xla xln xlc, .int .i64 xap, .int .i64 xd, .int .i64 xed, .int .i64 xbk, .int .i64 xse, .string sxtx, .string sxnm, .int .i64 xpt, .int .i64 xcl, .int .i64 xun] 28 (0, 0)), (.cells #[.int .i64 yn, .int .i64 ytm, .int .i64 ykd, .int .i64 yst, .string sylg, .int .i64 yrv, .int .i64 ybs, .string syti, .string syau, .slice yta ytn ytc, .slice yba ybn ybc, .int .i64 yu, .slice yla yln ylc, .int .i64 yap, .int .i64 yd, .int .i64 yed, .int .i64 ybk, .int .i64 yse, .string sytx, .string synm, .int .i64 ypt, .int .i64 ycl, .int .i64 yun] 28 (0, 0))])
  go_enter Tryz.func15, Tryz.ntmps15
  go_wp2_with fail
  refine (KT.out _ B0.out).mono ?_
  rintro e wtp ⟨rfl, bq⟩
  replace B0 := Lib.hid (bel2 B0.out bq)
  have GX := Lib.hid (show wtp.heap[w.heap.size]? = some (.cells #[.int .i64 xn, .int .i64 xtm, .int .i64 xkd, .int .i64 xst, .string sxlg, .int .i64 xrv, .int .i64 xbs, .string sxti, .string sxau, .slice xta xtn xtc, .slice xba xbn xbc, .int .i64 xu, .slice xla xln xlc, .int .i64 xap, .int .i64 xd, .int .i64 xed, .int .i64 xbk, .int .i64 xse, .string sxtx, .string sxnm, .int .i64 xpt, .int .i64 xcl, .int .i64 xun] 28 (0, 0)) from blockOver bq (HG.out 0))
  have GY := Lib.hid (show wtp.heap[w.heap.size + 1]? = some (.cells #[.int .i64 yn, .int .i64 ytm, .int .i64 ykd, .int .i64 yst, .string sylg, .int .i64 yrv, .int .i64 ybs, .string syti, .string syau, .slice yta ytn ytc, .slice yba ybn ybc, .int .i64 yu, .slice yla yln ylc, .int .i64 yap, .int .i64 yd, .int .i64 yed, .int .i64 ybk, .int .i64 yse, .string sytx, .string synm, .int .i64 ypt, .int .i64 ycl, .int .i64 yun] 28 (0, 0)) from blockOver bq (HG.out 1))
  have x10 : wtp.cell? ⟨w.heap.size, 10, none⟩ = some (.slice xba xbn xbc) := by rw [Joins.cell_of_block GX.out]; rfl
  have y10 : wtp.cell? ⟨w.heap.size + 1, 10, none⟩ = some (.slice yba ybn ybc) := by rw [Joins.cell_of_block GY.out]; rfl
  clear bq
  go_wp2_with fail
  refine (KB.out _ B0.out).mono ?_
  rintro e wbl ⟨rfl, bq⟩
  replace B0 := Lib.hid (bel2 B0.out bq)
  replace GX := Lib.hid (blockOver bq GX.out)
  replace GY := Lib.hid (blockOver bq GY.out)
  have x11 : wbl.cell? ⟨w.heap.size, 11, none⟩ = some (.int .i64 xu) := by rw [Joins.cell_of_block GX.out]; rfl
  have x12 : wbl.cell? ⟨w.heap.size, 12, none⟩ = some (.slice xla xln xlc) := by rw [Joins.cell_of_block GX.out]; rfl
  have x13 : wbl.cell? ⟨w.heap.size, 13, none⟩ = some (.int .i64 xap) := by rw [Joins.cell_of_block GX.out]; rfl
  have x14 : wbl.cell? ⟨w.heap.size, 14, none⟩ = some (.int .i64 xd) := by rw [Joins.cell_of_block GX.out]; rfl
  have y11 : wbl.cell? ⟨w.heap.size + 1, 11, none⟩ = some (.int .i64 yu) := by rw [Joins.cell_of_block GY.out]; rfl
  have y12 : wbl.cell? ⟨w.heap.size + 1, 12, none⟩ = some (.slice yla yln ylc) := by rw [Joins.cell_of_block GY.out]; rfl
  have y13 : wbl.cell? ⟨w.heap.size + 1, 13, none⟩ = some (.int .i64 yap) := by rw [Joins.cell_of_block GY.out]; rfl
  have y14 : wbl.cell? ⟨w.heap.size + 1, 14, none⟩ = some (.int .i64 yd) := by rw [Joins.cell_of_block GY.out]; rfl
  clear bq
  go_wp2_with fail
  refine (KL.out _ B0.out).mono ?_
  rintro e wlb ⟨rfl, bq⟩
  replace B0 := Lib.hid (bel2 B0.out bq)
  replace GX := Lib.hid (blockOver bq GX.out)
  replace GY := Lib.hid (blockOver bq GY.out)
  have x15 : wlb.cell? ⟨w.heap.size, 15, none⟩ = some (.int .i64 xed) := by rw [Joins.cell_of_block GX.out]; rfl
  have x16 : wlb.cell? ⟨w.heap.size, 16, none⟩ = some (.int .i64 xbk) := by rw [Joins.cell_of_block GX.out]; rfl
  have x17 : wlb.cell? ⟨w.heap.size, 17, none⟩ = some (.int .i64 xse) := by rw [Joins.cell_of_block GX.out]; rfl
  have x18 : wlb.cell? ⟨w.heap.size, 18, none⟩ = some (.string sxtx) := by rw [Joins.cell_of_block GX.out]; rfl
  have x19 : wlb.cell? ⟨w.heap.size, 19, none⟩ = some (.string sxnm) := by rw [Joins.cell_of_block GX.out]; rfl
  have x20 : wlb.cell? ⟨w.heap.size, 20, none⟩ = some (.int .i64 xpt) := by rw [Joins.cell_of_block GX.out]; rfl
  have x21 : wlb.cell? ⟨w.heap.size, 21, none⟩ = some (.int .i64 xcl) := by rw [Joins.cell_of_block GX.out]; rfl
  have x22 : wlb.cell? ⟨w.heap.size, 22, none⟩ = some (.int .i64 xun) := by rw [Joins.cell_of_block GX.out]; rfl
  have y15 : wlb.cell? ⟨w.heap.size + 1, 15, none⟩ = some (.int .i64 yed) := by rw [Joins.cell_of_block GY.out]; rfl
  have y16 : wlb.cell? ⟨w.heap.size + 1, 16, none⟩ = some (.int .i64 ybk) := by rw [Joins.cell_of_block GY.out]; rfl
  have y17 : wlb.cell? ⟨w.heap.size + 1, 17, none⟩ = some (.int .i64 yse) := by rw [Joins.cell_of_block GY.out]; rfl
  have y18 : wlb.cell? ⟨w.heap.size + 1, 18, none⟩ = some (.string sytx) := by rw [Joins.cell_of_block GY.out]; rfl
  have y19 : wlb.cell? ⟨w.heap.size + 1, 19, none⟩ = some (.string synm) := by rw [Joins.cell_of_block GY.out]; rfl
  have y20 : wlb.cell? ⟨w.heap.size + 1, 20, none⟩ = some (.int .i64 ypt) := by rw [Joins.cell_of_block GY.out]; rfl
  have y21 : wlb.cell? ⟨w.heap.size + 1, 21, none⟩ = some (.int .i64 ycl) := by rw [Joins.cell_of_block GY.out]; rfl
  have y22 : wlb.cell? ⟨w.heap.size + 1, 22, none⟩ = some (.int .i64 yun) := by rw [Joins.cell_of_block GY.out]; rfl
  clear bq
  go_wp2
  go_ret
  exact ⟨rfl, B0.out⟩
set_option maxHeartbeats 4000000 in
theorem same_se (xn xtm xkd xst xrv xbs xed xbk xse xpt xcl xun yn ytm ykd yst yrv ybs yed ybk yse ypt ycl yun xu xap xd yu yap yd : Int) (sxlg sxti sxau sxtx sxnm sylg syti syau sytx synm : ByteArray) (xta xba xla yta yba yla : Option Addr) (xtn xtc xbn xbc xln xlc ytn ytc ybn ybc yln ylc : Nat) (w : World) (g0 : (xn == yn) = true) (g1 : (xtm == ytm) = true) (g2 : (xkd == ykd) = true) (g3 : (xst == yst) = true) (g4 : sxlg.toList = sylg.toList) (g5 : (xrv == yrv) = true) (g6 : (xbs == ybs) = true) (g7 : sxti.toList = syti.toList) (g8 : sxau.toList = syau.toList) (g12 : (xed == yed) = true) (g13 : (xbk == ybk) = true) (g14 : (xse == yse) = false) (KT : Hid (∀ W : World, Below w.heap.size w W → Calls Tryz.prog 27 #[.slice xta xtn xtc, .slice yta ytn ytc] W fun e w' => e = .returned (.bool true) ∧ Below W.heap.size W w')) (KB : Hid (∀ W : World, Below w.heap.size w W → Calls Tryz.prog 28 #[.slice xba xbn xbc, .slice yba ybn ybc] W fun e w' => e = .returned (.bool true) ∧ Below W.heap.size W w')) (KL : Hid (∀ W : World, Below w.heap.size w W → Calls Tryz.prog 29 #[.agg #[.int .i64 xu, .slice xla xln xlc, .int .i64 xap, .int .i64 xd], .agg #[.int .i64 yu, .slice yla yln ylc, .int .i64 yap, .int .i64 yd]] W fun e w' => e = .returned (.bool true) ∧ Below W.heap.size W w')) :
    Calls Tryz.prog 15 #[.agg #[.int .i64 xn, .int .i64 xtm, .int .i64 xkd, .int .i64 xst, .string sxlg, .int .i64 xrv, .int .i64 xbs, .string sxti, .string sxau, .slice xta xtn xtc, .slice xba xbn xbc, .int .i64 xu, .slice xla xln xlc, .int .i64 xap, .int .i64 xd, .int .i64 xed, .int .i64 xbk, .int .i64 xse, .string sxtx, .string sxnm, .int .i64 xpt, .int .i64 xcl, .int .i64 xun], .agg #[.int .i64 yn, .int .i64 ytm, .int .i64 ykd, .int .i64 yst, .string sylg, .int .i64 yrv, .int .i64 ybs, .string syti, .string syau, .slice yta ytn ytc, .slice yba ybn ybc, .int .i64 yu, .slice yla yln ylc, .int .i64 yap, .int .i64 yd, .int .i64 yed, .int .i64 ybk, .int .i64 yse, .string sytx, .string synm, .int .i64 ypt, .int .i64 ycl, .int .i64 yun]] w fun e w' => e = .returned (.bool false) ∧ Below w.heap.size w w' := by
  have B0 := Lib.hid (two_below w (.cells #[.int .i64 xn, .int .i64 xtm, .int .i64 xkd, .int .i64 xst, .string sxlg, .int .i64 xrv, .int .i64 xbs, .string sxti, .string sxau, .slice xta xtn xtc, .slice xba xbn xbc, .int .i64 xu, .slice xla xln xlc, .int .i64 xap, .int .i64 xd, .int .i64 xed, .int .i64 xbk, .int .i64 xse, .string sxtx, .string sxnm, .int .i64 xpt, .int .i64 xcl, .int .i64 xun] 28) (.cells #[.int .i64 yn, .int .i64 ytm, .int .i64 ykd, .int .i64 yst, .string sylg, .int .i64 yrv, .int .i64 ybs, .string syti, .string syau, .slice yta ytn ytc, .slice yba ybn ybc, .int .i64 yu, .slice yla yln ylc, .int .i64 yap, .int .i64 yd, .int .i64 yed, .int .i64 ybk, .int .i64 yse, .string sytx, .string synm, .int .i64 ypt, .int .i64 ycl, .int .i64 yun] 28))
  have HG := Lib.hid (allocs_get w [(.cells #[.int .i64 xn, .int .i64 xtm, .int .i64 xkd, .int .i64 xst, .string sxlg, .int .i64 xrv, .int .i64 xbs, .string sxti, .string sxau, .slice xta xtn xtc, .slice xba xbn xbc, .int .i64 xu, .slice xla xln xlc, .int .i64 xap, .int .i64 xd, .int .i64 xed, .int .i64 xbk, .int .i64 xse, .string sxtx, .string sxnm, .int .i64 xpt, .int .i64 xcl, .int .i64 xun] 28 (0, 0)), (.cells #[.int .i64 yn, .int .i64 ytm, .int .i64 ykd, .int .i64 yst, .string sylg, .int .i64 yrv, .int .i64 ybs, .string syti, .string syau, .slice yta ytn ytc, .slice yba ybn ybc, .int .i64 yu, .slice yla yln ylc, .int .i64 yap, .int .i64 yd, .int .i64 yed, .int .i64 ybk, .int .i64 yse, .string sytx, .string synm, .int .i64 ypt, .int .i64 ycl, .int .i64 yun] 28 (0, 0))])
  go_enter Tryz.func15, Tryz.ntmps15
  go_wp2_with fail
  refine (KT.out _ B0.out).mono ?_
  rintro e wtp ⟨rfl, bq⟩
  replace B0 := Lib.hid (bel2 B0.out bq)
  have GX := Lib.hid (show wtp.heap[w.heap.size]? = some (.cells #[.int .i64 xn, .int .i64 xtm, .int .i64 xkd, .int .i64 xst, .string sxlg, .int .i64 xrv, .int .i64 xbs, .string sxti, .string sxau, .slice xta xtn xtc, .slice xba xbn xbc, .int .i64 xu, .slice xla xln xlc, .int .i64 xap, .int .i64 xd, .int .i64 xed, .int .i64 xbk, .int .i64 xse, .string sxtx, .string sxnm, .int .i64 xpt, .int .i64 xcl, .int .i64 xun] 28 (0, 0)) from blockOver bq (HG.out 0))
  have GY := Lib.hid (show wtp.heap[w.heap.size + 1]? = some (.cells #[.int .i64 yn, .int .i64 ytm, .int .i64 ykd, .int .i64 yst, .string sylg, .int .i64 yrv, .int .i64 ybs, .string syti, .string syau, .slice yta ytn ytc, .slice yba ybn ybc, .int .i64 yu, .slice yla yln ylc, .int .i64 yap, .int .i64 yd, .int .i64 yed, .int .i64 ybk, .int .i64 yse, .string sytx, .string synm, .int .i64 ypt, .int .i64 ycl, .int .i64 yun] 28 (0, 0)) from blockOver bq (HG.out 1))
  have x10 : wtp.cell? ⟨w.heap.size, 10, none⟩ = some (.slice xba xbn xbc) := by rw [Joins.cell_of_block GX.out]; rfl
  have y10 : wtp.cell? ⟨w.heap.size + 1, 10, none⟩ = some (.slice yba ybn ybc) := by rw [Joins.cell_of_block GY.out]; rfl
  clear bq
  go_wp2_with fail
  refine (KB.out _ B0.out).mono ?_
  rintro e wbl ⟨rfl, bq⟩
  replace B0 := Lib.hid (bel2 B0.out bq)
  replace GX := Lib.hid (blockOver bq GX.out)
  replace GY := Lib.hid (blockOver bq GY.out)
  have x11 : wbl.cell? ⟨w.heap.size, 11, none⟩ = some (.int .i64 xu) := by rw [Joins.cell_of_block GX.out]; rfl
  have x12 : wbl.cell? ⟨w.heap.size, 12, none⟩ = some (.slice xla xln xlc) := by rw [Joins.cell_of_block GX.out]; rfl
  have x13 : wbl.cell? ⟨w.heap.size, 13, none⟩ = some (.int .i64 xap) := by rw [Joins.cell_of_block GX.out]; rfl
  have x14 : wbl.cell? ⟨w.heap.size, 14, none⟩ = some (.int .i64 xd) := by rw [Joins.cell_of_block GX.out]; rfl
  have y11 : wbl.cell? ⟨w.heap.size + 1, 11, none⟩ = some (.int .i64 yu) := by rw [Joins.cell_of_block GY.out]; rfl
  have y12 : wbl.cell? ⟨w.heap.size + 1, 12, none⟩ = some (.slice yla yln ylc) := by rw [Joins.cell_of_block GY.out]; rfl
  have y13 : wbl.cell? ⟨w.heap.size + 1, 13, none⟩ = some (.int .i64 yap) := by rw [Joins.cell_of_block GY.out]; rfl
  have y14 : wbl.cell? ⟨w.heap.size + 1, 14, none⟩ = some (.int .i64 yd) := by rw [Joins.cell_of_block GY.out]; rfl
  clear bq
  go_wp2_with fail
  refine (KL.out _ B0.out).mono ?_
  rintro e wlb ⟨rfl, bq⟩
  replace B0 := Lib.hid (bel2 B0.out bq)
  replace GX := Lib.hid (blockOver bq GX.out)
  replace GY := Lib.hid (blockOver bq GY.out)
  have x15 : wlb.cell? ⟨w.heap.size, 15, none⟩ = some (.int .i64 xed) := by rw [Joins.cell_of_block GX.out]; rfl
  have x16 : wlb.cell? ⟨w.heap.size, 16, none⟩ = some (.int .i64 xbk) := by rw [Joins.cell_of_block GX.out]; rfl
  have x17 : wlb.cell? ⟨w.heap.size, 17, none⟩ = some (.int .i64 xse) := by rw [Joins.cell_of_block GX.out]; rfl
  have x18 : wlb.cell? ⟨w.heap.size, 18, none⟩ = some (.string sxtx) := by rw [Joins.cell_of_block GX.out]; rfl
  have x19 : wlb.cell? ⟨w.heap.size, 19, none⟩ = some (.string sxnm) := by rw [Joins.cell_of_block GX.out]; rfl
  have x20 : wlb.cell? ⟨w.heap.size, 20, none⟩ = some (.int .i64 xpt) := by rw [Joins.cell_of_block GX.out]; rfl
  have x21 : wlb.cell? ⟨w.heap.size, 21, none⟩ = some (.int .i64 xcl) := by rw [Joins.cell_of_block GX.out]; rfl
  have x22 : wlb.cell? ⟨w.heap.size, 22, none⟩ = some (.int .i64 xun) := by rw [Joins.cell_of_block GX.out]; rfl
  have y15 : wlb.cell? ⟨w.heap.size + 1, 15, none⟩ = some (.int .i64 yed) := by rw [Joins.cell_of_block GY.out]; rfl
  have y16 : wlb.cell? ⟨w.heap.size + 1, 16, none⟩ = some (.int .i64 ybk) := by rw [Joins.cell_of_block GY.out]; rfl
  have y17 : wlb.cell? ⟨w.heap.size + 1, 17, none⟩ = some (.int .i64 yse) := by rw [Joins.cell_of_block GY.out]; rfl
  have y18 : wlb.cell? ⟨w.heap.size + 1, 18, none⟩ = some (.string sytx) := by rw [Joins.cell_of_block GY.out]; rfl
  have y19 : wlb.cell? ⟨w.heap.size + 1, 19, none⟩ = some (.string synm) := by rw [Joins.cell_of_block GY.out]; rfl
  have y20 : wlb.cell? ⟨w.heap.size + 1, 20, none⟩ = some (.int .i64 ypt) := by rw [Joins.cell_of_block GY.out]; rfl
  have y21 : wlb.cell? ⟨w.heap.size + 1, 21, none⟩ = some (.int .i64 ycl) := by rw [Joins.cell_of_block GY.out]; rfl
  have y22 : wlb.cell? ⟨w.heap.size + 1, 22, none⟩ = some (.int .i64 yun) := by rw [Joins.cell_of_block GY.out]; rfl
  clear bq
  go_wp2
  go_ret
  exact ⟨rfl, B0.out⟩
end Go.Proofs.YtlhcckjfgpcohaaGreatDoor
