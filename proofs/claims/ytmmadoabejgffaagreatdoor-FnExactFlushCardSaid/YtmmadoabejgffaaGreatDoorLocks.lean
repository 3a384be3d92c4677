/-
  Proofs.
-/
import Derived.Test.YtmmadoabejgffaaGreatDoorProg
import Derived.Conc.MuLone
import Derived.KernelRfl
namespace Go.Proofs.YtmmadoabejgffaaGreatDoor
open Go.Conc.Locks
abbrev muLink:MuLink:={ lock:=50,unlock:=51,ilock:=100,iunlock:=101,lockSlow:=139,unlockSlow:=142,disable:=135,enable:=137,acquire:=138,relMerge:=140,cas32:=136,add32:=141,tMutex:=108,tIMutex:=106,tPMutex:=164,tPIMutex:=200,tPI32:=202,tUP:=204,tNoCopy:=103,tU32:=104 }
theorem muLib:MuLib Tryz.prog muLink :=
 ⟨Tryz.func50,Tryz.func51,Tryz.func100,Tryz.func101,Tryz.func135,Tryz.func137,Tryz.func138,Tryz.func140,Tryz.func136,Tryz.func141,Tryz.underlying106,Tryz.runUnderlying106,Tryz.sizeOf106,Tryz.isAgg106,Tryz.zeroValue106,Tryz.underlying108,Tryz.runUnderlying108,Tryz.sizeOf108,Tryz.isAgg108,Tryz.zeroValue108,Tryz.underlying164,Tryz.runUnderlying164,Tryz.sizeOf164,Tryz.isAgg164,Tryz.zeroValue164,Tryz.underlying200,Tryz.runUnderlying200,Tryz.sizeOf200,Tryz.isAgg200,Tryz.zeroValue200,Tryz.underlying202,Tryz.runUnderlying202,Tryz.sizeOf202,Tryz.isAgg202,Tryz.zeroValue202,Tryz.underlying204,Tryz.runUnderlying204,Tryz.sizeOf204,Tryz.isAgg204,Tryz.zeroValue204,Tryz.underlying103,Tryz.runUnderlying103,Tryz.sizeOf103,Tryz.isAgg103,Tryz.zeroValue103,Tryz.underlying21,Tryz.runUnderlying21,Tryz.sizeOf21,Tryz.isAgg21,Tryz.zeroValue21,(by kernel_rfl)⟩
end Go.Proofs.YtmmadoabejgffaaGreatDoor
