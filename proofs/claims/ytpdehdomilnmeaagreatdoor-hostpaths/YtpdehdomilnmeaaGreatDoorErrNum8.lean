import Derived.Test.YtpdehdomilnmeaaGreatDoorPlErr
namespace Go.Proofs.YtpdehdomilnmeaaGreatDoor
open Go.ChangeShapes Go.WideShapes Go.ChangeAt Go.RowKit
set_option maxRecDepth 100000
def Errs (w:World) (a:Nat→Addr):Prop:=Err w 0 text0 (a 0)∧Err w 1 text1 (a 1)∧Err w 2 text2 (a 2)∧Err w 3 text3 (a 3)∧Err w 4 text4 (a 4)∧Err w 5 text5 (a 5)∧Err w 6 text6 (a 6)∧Err w 7 text7 (a 7)∧Err w 8 text8 (a 8)∧Err w 9 text9 (a 9)∧Err w 10 text10 (a 10)∧Err w 11 text11 (a 11)∧Err w 12 text12 (a 12)∧Err w 13 text13 (a 13)∧Err w 14 text14 (a 14)∧Err w 15 text15 (a 15)
theorem Errs.late {w w':World} {a:Nat→Addr} (h:Errs w a) (hb:Below w.heap.size w w'):Errs w' a:=by
 obtain⟨e0,e1,e2,e3,e4,e5,e6,e7,e8,e9,e10,e11,e12,e13,e14,e15⟩:=h
 exact⟨e0.late hb,e1.late hb,e2.late hb,e3.late hb,e4.late hb,e5.late hb,e6.late hb,e7.late hb,e8.late hb,e9.late hb,e10.late hb,e11.late hb,e12.late hb,e13.late hb,e14.late hb,e15.late hb⟩
theorem Errs.cell_number {w:World} {a:Nat→Addr} (h:Errs w a):w.cell? ⟨0,0,none⟩=some (.iface 290 (.pointer (some (a 0)))):=h.1.1
theorem Errs.cell_over {w:World} {a:Nat→Addr} (h:Errs w a):w.cell? ⟨1,0,none⟩=some (.iface 290 (.pointer (some (a 1)))):=h.2.1.1
theorem Errs.cell_full {w:World} {a:Nat→Addr} (h:Errs w a):w.cell? ⟨6,0,none⟩=some (.iface 290 (.pointer (some (a 6)))):=h.2.2.2.2.2.2.1.1
theorem Errs.cell_server {w:World} {a:Nat→Addr} (h:Errs w a):w.cell? ⟨9,0,none⟩=some (.iface 290 (.pointer (some (a 9)))):=h.2.2.2.2.2.2.2.2.2.1.1
theorem Errs.cell_task {w:World} {a:Nat→Addr} (h:Errs w a):w.cell? ⟨10,0,none⟩=some (.iface 290 (.pointer (some (a 10)))):=h.2.2.2.2.2.2.2.2.2.2.1.1
theorem Errs.cell_tight {w:World} {a:Nat→Addr} (h:Errs w a):w.cell? ⟨11,0,none⟩=some (.iface 290 (.pointer (some (a 11)))):=h.2.2.2.2.2.2.2.2.2.2.2.1.1
end Go.Proofs.YtpdehdomilnmeaaGreatDoor
