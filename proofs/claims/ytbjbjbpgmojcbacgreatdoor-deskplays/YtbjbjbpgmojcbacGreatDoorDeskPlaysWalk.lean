/- A part of the proof: what it leans on. -/
import Derived.Test.YtbjbjbpgmojcbacGreatDoorDk21
set_option maxRecDepth 8000
set_option maxHeartbeats 1000000
namespace Go.Proofs.YtbjbjbpgmojcbacGreatDoor
open Ar Bk Cd Dk Im Tk Tr Vy
open Tryz
open Go.RowKit
open Dk (ba)
namespace Dk
def aa6:ByteArray:=⟨([112,117,116,32,97,32,48,32,111,110,101,32,116,119,111,32,111,110,101,32,116,119,111,32,111,110,101,32,116,119,111,10,108,105,115,116,10,103,101,116,32,97,10,114,97,110,103,101,32,97,32,52,32].append [51,10,112,117,116,32,98,32,48,32,10,116,114,97,105,110,32,49,54,10,115,105,122,101,10,115,97,118,101,10,100,114,111,112,32,98,10,99,111,109,112,97,99,116,10,103,101,116,32,98,10,120,10]).toArray⟩
def T0:ByteArray:=⟨([111,107,10,97,58,50,51,47,49,50,10,111,110,101,32,116,119,111,32,111,110,101,32,116,119,111,32,111,110,101,32,116,119,111,10,116].append [119,111,10,111,107,10,111,107,10,49,51,10,51,53,10,111,107,10,111,107,10,101,114,114,111,114,32,53,10,101,114,114,111,114,32,49,10]).toArray⟩
theorem uc:aa6.data.toList=s0:=by decide +kernel
theorem ud:ba t0=T0:=by decide +kernel
theorem ue:(T0.toList == [111,107,10,97,58,50,51,47,49,50,10,111,110,101,32,116,119,111,32,111,110,101,32,116,119,111,32,111,110,101,32,116,119,111,10,116,119,111,10,111,107,10,111,107,10,49,51,10,51,53,10,111,107,10,111,107,10,101,114,114,111,114,32,53,10,101,114,114,111,114,32,49,10])=true:=by decide +kernel
end Dk
theorem Uz(w:World)(hT:Gl w):CB 4 #[.string aa6] w (.tuple #[.string Dk.T0,.int .i64 0]):=by
 have C:=GX aa6 w (by decide +kernel) hT;rw[Dk.uc,Dk.An,Am,Dk.ud]at C;exact C
theorem UA(w:World)(hT:Gl w):CB 6 #[] w (.bool true):=by
 have C:=Uz w hT;have e0:=Dk.ue;go_enter func6,ntmps6
 go_wp2_with fail
 refine mo C λw1 G=>?_
 go_wp2_with fail
 go_ret
 exact⟨rfl,G⟩
theorem UC(s:ByteArray)(w:World)(hs:s.size<=281474976710656)(hT:Gl w) :
 CB 3 #[.string s] w (.bool true):=by
 have C1:=GX s w hs hT;have C2:=λw'=>Ux s w' hs
 have C3:Hid (∀w',ae w w'->CB 6 #[] w' (.bool true)):=λw' h9=>UA w' (hT.below h9)
 generalize ba (XP s.data.toList)=T at*;generalize XQ s.data.toList=E at*;have e1:(T.toList==T.toList)=true:=by simp
 have e2:(E==E)=true:=by simp
 clear hT hs;go_enter func3,ntmps3
 go_wp2_with fail
 refine mo C1 λw1 G1=>?_
 go_wp2_with fail
 refine mo (C2 _) λw2 G2=>?_
 have B2:=ag G1 G2;go_wp2_with fail
 refine mo (C3.out _ B2) λw3 G3=>?_
 have B3:=ag B2 G3;go_wp2_with fail
 go_ret
 exact⟨rfl,B3⟩
end Go.Proofs.YtbjbjbpgmojcbacGreatDoor
