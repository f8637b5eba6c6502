/- The law PagerActs returns true and turns nothing that was there, whatever it is called with; the walk alone. -/
import Derived.Test.YtadhdedjdgjboaaGreatDoorH46
import Derived.Test.YtadhdedjdgjboaaGreatDoorH17
set_option maxHeartbeats 16000000
set_option maxRecDepth 20000
namespace Go.Proofs.YtadhdedjdgjboaaGreatDoor
section
open Go.RowKit Go.Maps
open Dsk (gt hid undrew keep_old keep_cell lt_cell Rd DS FS Sec DiskP DFrame Grew From op_at idx dirtD was secD sureF sureF_ok crashD newD)
open Cch (CS CP Fr wpAnyK wpAnyK_take wpAnyK_pure wpAnyK_ready wpAnyK_done wp_region_K AllReadyK.cons AllReadyK.nil AllReadyK.late)
def Acts(w:World)(b off L:Nat)(X:Nat→Pv):Prop:=∀ i,i<L→w.cell? ⟨b,off+i*4,none⟩=some (.int .i64 (X i).k)∧w.cell? ⟨b,off+i*4+1,none⟩=some (.int .i64 (X i).n)∧w.cell? ⟨b,off+i*4+2,none⟩=some (.int .u8 ((X i).s:Int))∧w.cell? ⟨b,off+i*4+3,none⟩=some (.bool (X i).sh)∧(X i).s<256
def ActsV(w:World)(lo:Option Addr)(L:Nat)(X:Nat→Pv):Prop:=0<L→∃ b off,lo=some ⟨b,off,none⟩∧Acts w b off L X
theorem Acts.keep{w w':World}{b off L:Nat}{X:Nat→Pv}(h:Acts w b off L X)(hb:Below w.heap.size w w'):Acts w' b off L X:=fun i hi=>by
 obtain ⟨h0,h1,h2,h3,h4⟩:=h i hi
 exact ⟨keep_old hb h0,keep_old hb h1,keep_old hb h2,keep_old hb h3,h4⟩
end
end Go.Proofs.YtadhdedjdgjboaaGreatDoor
