/- A part of the proof: what it leans on. -/
import Derived.Deep.WholeRow
import Derived.Deep.MidRow
import Derived.Lib.AppendStr
import Derived.Test.YtbjbjbpgmojcbacGreatDoorDk01
set_option maxHeartbeats 4000000
namespace Go.Proofs.YtbjbjbpgmojcbacGreatDoor
open Ar Bk Cd Dk Im Tk Tr Vy
open Tryz
open Go.RowKit
def eA(s:ByteArray):Nat->Nat
 |0=>0
 |k+1=>(eA s k+(s.data.toList[k]?.getD 0).toNat*((k+1)%65536))%65536
theorem wW(s:ByteArray)(k:Nat):eA s k<65536:=by
 cases k with
 |zero=>simp[eA]
 |succ k=>exact Nat.mod_lt _ (by omega)
theorem BW(s:ByteArray)(k:Nat)(h:k<s.size):(eA s (k+1):Int)=((eA s k:Int)+(s[k].toNat:Int)*(((k:Int)+1)%65536))%65536:=by
 rw[eA,ZX s k h];simp
theorem I6(s:ByteArray)(k:Nat)(h:k<s.size):(eA s (k+1):Int)=((eA s k:Int)+((k:Int)%65536+1)*(s[k].toNat:Int))%65536:=by
 rw[BW s k h];by_cases h1:(k:Int)%65536+1<65536
 ·rw[show((k:Int)+1)%65536=(k:Int)%65536+1 by omega,Int.mul_comm]
 ·rw[show((k:Int)+1)%65536=0 by omega,show(k:Int)%65536+1=65536 by omega];omega
theorem BY(s:ByteArray)(w:World)(hs:s.size<=281474976710656) :
 Calls prog 99 #[.string s] w λe w'=>e=.returned (.int .i64 (eA s s.size:Nat))/\w'=w:=by
 have hs2:(s.size:Int)<=281474976710656:=by omega
 clear hs;go_enter func99,ntmps99
 go_wp2_with fail
 go_loop [3,7] (λn i=>∃k:Nat,k<=s.size/\i=.int .i64 k/\n=.int .i64 (eA s k:Nat)) (λ_ i=>s.size-(intOf i).toNat)
 case atStart=>exact⟨0,by omega,rfl,rfl⟩
 case round =>
  obtain⟨k,hk,rfl,rfl⟩:=hrel;have hv:=wW s k;by_cases hlt:k<s.size
  ·have Hs:Hid ((eA s (k+1):Int)=((eA s k:Int)+(s[k].toNat:Int)*(((k:Int)+1)%65536))%65536):=BW s k hlt;generalize eA s k=m at*;generalize hm:eA s (k+1)=m1 at*
   obtain⟨x,hx⟩:∃x:Int,(s[k].toNat:Int)=x:=⟨_,rfl⟩
   have hx0:0<=x:=by omega
   have hx1:x<=255:=by have:=s[k].toNat_lt;omega
   have Hx:Hid ((s[k].toNat:Int)=x):=hx
   obtain⟨y,hy⟩:∃y:Int,x*(((k:Int)+1)%65536)=y:=⟨_,rfl⟩
   have hy0:0<=y:=by rw[<-hy];exact Int.mul_nonneg (by omega) (by omega)
   have hy1:y<=16777216:=by
    rw[<-hy];have h9:x*(((k:Int)+1)%65536)<=255*65536:=Int.mul_le_mul hx1 (by omega) (by omega) (by omega);omega
   have HM:Hid (eA s (k+1)=m1):=hm;clear hm;have HY:Hid (x*(((k:Int)+1)%65536)=y):=hy;have hmb:(m:Int)<65536:=by omega
   clear hv;go_wp2_with fail
   go_round
   case rel=>exact⟨k+1,by omega,by go_num,by rw[HM.out,Hs.out,Hx.out,HY.out]⟩
   case measure=>simp[intOf];omega
  ·obtain rfl:k=s.size:=by omega
   go_wp2_with fail
   go_ret
   exact⟨rfl,rfl⟩
theorem wX(s:ByteArray)(w:World)(hs:s.size<=281474976710656) :
 Calls prog 82 #[.string s] w λe w'=>e=.returned (.int .i64 (eA s s.size:Nat))/\w'=w:=by
 have hs2:(s.size:Int)<=281474976710656:=by omega
 clear hs;go_enter func82,ntmps82
 go_wp2_with fail
 go_loop [3,4] (λn i=>∃k:Nat,k<=s.size/\i=.int .i64 k/\n=.int .i64 (eA s k:Nat)) (λ_ i=>s.size-(intOf i).toNat)
 case atStart=>exact⟨0,by omega,rfl,rfl⟩
 case round =>
  obtain⟨k,hk,rfl,rfl⟩:=hrel;have hv:=wW s k;by_cases hlt:k<s.size
  ·have Hs:Hid ((eA s (k+1):Int)=((eA s k:Int)+((k:Int)%65536+1)*(s[k].toNat:Int))%65536):=I6 s k hlt;generalize eA s k=m at*;generalize hm:eA s (k+1)=m1 at*
   obtain⟨x,hx⟩:∃x:Int,(s[k].toNat:Int)=x:=⟨_,rfl⟩
   have hx0:0<=x:=by omega
   have hx1:x<=255:=by have:=s[k].toNat_lt;omega
   have Hx:Hid ((s[k].toNat:Int)=x):=hx
   obtain⟨y,hy⟩:∃y:Int,((k:Int)%65536+1)*x=y:=⟨_,rfl⟩
   have hy0:0<=y:=by rw[<-hy];exact Int.mul_nonneg (by omega) (by omega)
   have hy1:y<=16777216:=by
    rw[<-hy];have h9:((k:Int)%65536+1)*x<=65536*255:=Int.mul_le_mul (by omega) hx1 (by omega) (by omega);omega
   have HM:Hid (eA s (k+1)=m1):=hm;clear hm;have HY:Hid (((k:Int)%65536+1)*x=y):=hy;have hmb:(m:Int)<65536:=by omega
   clear hv;go_wp2_with fail
   go_round
   case rel=>exact⟨k+1,by omega,by go_num,by rw[HM.out,Hs.out,Hx.out,HY.out]⟩
   case measure=>simp[intOf];omega
  ·obtain rfl:k=s.size:=by omega
   go_wp2_with fail
   go_ret
   exact⟨rfl,rfl⟩
def arr(f:Nat->Int):Array Value:=((List.range 16).map λi=>Value.int .i64 (f i)).toArray
theorem Zo(f:Nat->Int):(arr f).size=16:=by simp[arr]
theorem lF(f:Nat->Int)(i:Nat)(h:i<16):(arr f)[i]?=some (.int .i64 (f i)):=by simp[arr,h]
theorem I7:(prog.info? 142).map (·.size)=some 16:=by kernel_rfl
theorem Zh(f:Nat->Int):(prog.info? 142).map (·.size)=some (arr f).size:=by rw[Zo];exact I7
theorem cY(f:Nat->Int)(k:Nat)(h:k<16)(w:World):(Instr.index 142 (.agg (arr f)) (.int .i64 (k:Int))).run prog w=.ok (.int .i64 (f k)) w:=by
 have h1:=lF f k h;have h2:(0:Int)<=(k:Int)/\(k:Int)<((16:Nat):Int):=by omega
 generalize arr f=c at*;simp[Instr.index,run_underlying underlying142,asIntOf,go_sem,h2,part,h1];intro h9;omega
end Go.Proofs.YtbjbjbpgmojcbacGreatDoor
namespace Go.Proofs.YtbjbjbpgmojcbacGreatDoor.Cd
open Ar Bk Cd Dk Im Tk Tr Vy
open Tryz
variable{hi x:Int}{k:Nat}{f:Nat->Int}
def Wk(f:Nat->Int)(hi:Int)(k:Nat):Prop:=∀i,i<k->0<=f i/\f i<=hi
instance (f:Nat->Int) (hi:Int) (k:Nat):Decidable (Wk f hi k):=inferInstanceAs (Decidable (∀i,i<k->0<=f i/\f i<=hi))
theorem Wk.succ(h:Wk f hi k)(h1:0<=f k)(h2:f k<=hi):Wk f hi (k+1):=λi hlt=>by
 rcases Nat.lt_succ_iff_lt_or_eq.1 hlt with h3|rfl
 ·exact h i h3
 ·exact⟨h1,h2⟩
theorem wZ{n:Nat}(hk:k<n)(h:f k<0\/hi<f k):¬Wk f hi n:=λh9=>by have:=h9 k hk;omega
def YF(x:Int):Int:=if 0<x then 2^(15-x).toNat else 0
def Wp(f:Nat->Int):Nat->Int
 |0=>0
 |k+1=>Wp f k+YF (f k)
theorem rb{a b:Nat}(h:a<=b):(2:Int)^a<=2^b:=by
 have:=Nat.pow_le_pow_right (show 0<2 by omega) h
 exact_mod_cast this
theorem pow_pos(a:Nat):(1:Int)<=2^a:=by
 have:0<2^a:=Nat.pow_pos (by omega)
 exact_mod_cast this
theorem pK(h:0<x):YF x=2^(15-x).toNat:=by rw[YF,ax h]
theorem aam(h:¬0<x):YF x=0:=by rw[YF,ab h]
theorem me(h0:0<=x)(h1:x<=15):0<=YF x/\YF x<=16384:=by
 unfold YF;split
 ·have h2:(2:Int)^(15-x).toNat<=2^14:=rb (by omega);have h3:=pow_pos (15-x).toNat;omega
 ·omega
theorem aal :∀k,Wk f 15 k->0<=Wp f k/\Wp f k<=16384*k:=by
 intro k
 induction k with
 |zero=>intro _;simp[Wp]
 |succ k ih =>
  intro h;have h1:=ih (λi hi=>h i (by omega));have h2:=h k (by omega);have h3:=me h2.1 h2.2;rw[Wp];omega
def Yo(f:Nat->Int):Nat->Bool
 |0=>false
 |k+1=>Yo f k||decide (0<f k)
theorem I8 :∀k,Wk f 15 k->(Wp f k=0↔Yo f k=false):=by
 intro k
 induction k with
 |zero=>intro _;simp[Wp,Yo]
 |succ k ih =>
  intro h;have h0:Wk f 15 k:=λi hi=>h i (by omega)
  have h1:=ih h0;have h2:=h k (by omega);have h3:=aal k h0;rw[Wp,Yo];by_cases hp:0<f k
  ·rw[pK hp];have:=pow_pos (15-f k).toNat;simp[hp];omega
  ·rw[aam hp];simp[hp,h1]
def Wj(f:Nat->Int):Int:=if Wk f 15 16 then(if Wp f 16=0\/32768<Wp f 16 then 1 else 0) else 3
theorem BZ(hk:k<16)(h:f k<0\/15<f k):Wj f=3:=by rw[Wj,ab (wZ hk h)]
theorem aan(h:Wk f 15 16)(h1:Wp f 16=0\/32768<Wp f 16):Wj f=1:=by rw[Wj,ax h,ax h1]
theorem aao(h:Wk f 15 16)(h1:¬(Wp f 16=0\/32768<Wp f 16)):Wj f=0:=by rw[Wj,ax h,ab h1]
theorem Yc(h:Wj f=0):Wk f 15 16/\Wp f 16≠0/\Wp f 16<=32768:=by
 unfold Wj at h;by_cases h1:Wk f 15 16
 ·rw[ax h1]at h;by_cases h2:Wp f 16=0\/32768<Wp f 16
  ·rw[ax h2]at h;omega
  ·exact⟨h1,by omega,by omega⟩
 ·rw[ab h1]at h;omega
def aap(f c:Nat->Int):Nat->Option Int
 |0=>some 0
 |k+1=>match aap f c k with
  |none=>none
  |some n=>if 0<c k/\f k=0 then none else some (n+c k*f k)
def aaq(f c:Nat->Int):Int×Int :=
 if Wj f≠0 then(0,Wj f) else if ¬Wk c 2048 16 then(0,3) else match aap f c 16 with|none=>(0,5)|some n=>(n,0)
end Go.Proofs.YtbjbjbpgmojcbacGreatDoor.Cd
namespace Go.Proofs.YtbjbjbpgmojcbacGreatDoor.Tk
open Ar Bk Cd Dk Im Tk Tr Vy
open Tryz
variable{p:Bool}{s:List UInt8}{d:Nat}
structure T where
 lit:ByteArray
 far:Int
 len:Int
def Xn(far:Nat):Nat->List UInt8->List UInt8
 |0,s=>s
 |n+1,s=>Xn far n (s++[s.getD (s.length-far) 0])
theorem Cb(far:Nat):∀(n:Nat) (s:List UInt8),(Xn far n s).length=s.length+n:=by
 intro n
 induction n with
 |zero=>intro s;rfl
 |succ n ih=>intro s;rw[Xn,ih];simp;omega
theorem YX(far:Nat):∀(n:Nat) (s:List UInt8),Xn far (n+1) s=Xn far n s++[(Xn far n s).getD ((Xn far n s).length-far) 0]:=by
 intro n
 induction n with
 |zero=>intro s;rfl
 |succ n ih=>intro s;rw[Xn,ih];rfl
def VQ(d:Nat)(s:List UInt8)(p:Bool)(t:T):Int :=
 if t.lit.size≠0 then
  if t.far≠0\/t.len≠0\/p=true then 1
  else if 512<(s.length:Int)-d+t.lit.size then 2 else 0
 else if ¬(3<=t.len/\t.len<=64/\1<=t.far/\t.far<=s.length) then 1
 else if 512<(s.length:Int)-d+t.len then 2 else 0
def Wh(s:List UInt8)(t:T):List UInt8 :=
 if t.lit.size≠0 then s++t.lit.data.toList else Xn t.far.toNat t.len.toNat s
def VK(d:Nat):List UInt8->Bool->List T->Int×List UInt8
 |s,_,[]=>(0,s)
 |s,p,t :: l=>if VQ d s p t≠0 then(VQ d s p t,[]) else VK d (Wh s t) (decide (t.lit.size≠0)) l
theorem iC{t:T}{l:List T}(h:VQ d s p t≠0):VK d s p (t :: l)=(VQ d s p t,[]):=by simp[VK,h]
theorem Xm{t:T}{l:List T}(h:VQ d s p t=0):VK d s p (t :: l)=VK d (Wh s t) (decide (t.lit.size≠0)) l:=by simp[VK,h]
theorem X8{t:T}(h:VQ d s p t=0):(Wh s t).length=s.length+t.lit.size+t.len.toNat/\0<=t.len/\(t.lit.size=0->1<=t.far/\t.far<=s.length/\3<=t.len/\t.len<=64)/\(t.lit.size≠0->t.far=0/\t.len=0)/\((s.length:Int)-d+t.lit.size+t.len<=512):=by
 unfold VQ at h;unfold Wh;by_cases h0:t.lit.size≠0
 ·rw[ax h0]at h;rw[ax h0];by_cases h1:t.far≠0\/t.len≠0\/p=true
  ·rw[ax h1]at h;omega
  ·rw[ab h1]at h;by_cases h2:512<(s.length:Int)-d+t.lit.size
   ·rw[ax h2]at h;omega
   ·have hf:t.far=0:=by
     by_cases e:t.far=0
     ·exact e
     ·exact absurd (Or.inl e) h1
    have hl:t.len=0:=by
     by_cases e:t.len=0
     ·exact e
     ·exact absurd (Or.inr (Or.inl e)) h1
    refine⟨?_,by omega,λe=>absurd e h0,λ_=>⟨hf,hl⟩,by omega⟩;simp[hl]
 ·rw[ab h0]at h;rw[ab h0];by_cases h1:3<=t.len/\t.len<=64/\1<=t.far/\t.far<=s.length
  ·rw[ab (by simpa using h1)]at h;by_cases h2:512<(s.length:Int)-d+t.len
   ·rw[ax h2]at h;omega
   ·refine⟨?_,by omega,λ_=>by omega,λe=>absurd e h0,by omega⟩;rw[Cb];omega
  ·rw[ax h1]at h;omega
end Go.Proofs.YtbjbjbpgmojcbacGreatDoor.Tk
namespace Go.Proofs.YtbjbjbpgmojcbacGreatDoor
open Ar Bk Cd Dk Im Tk Tr Vy
open Tryz
variable{L:Bool}{s:ByteArray}{M:Int}{l l':List UInt8}{g n:Nat}{v v' x y z:Value}{w w':World}
open Go.RowKit
def aM(w:World)(B:Nat)(v:Value)(l:List UInt8):Prop :=
 (v=.slice none 0 0/\l=[])\/∃g cap,v=.slice (some ⟨g,0,none⟩) l.length cap/\B<=g/\g<w.heap.size/\l.length<=cap/\cap<=maxLen ∧
  (∀j b,l[j]?=some b->w.cell? ⟨g,j,none⟩=some (.int .u8 (b.toNat:Int))) ∧
  (∀j,l.length<=j->j<cap->(w.cell? ⟨g,j,none⟩).isSome=true/\w.frozen? ⟨g,j,none⟩=false)
theorem aM.nil(w:World)(B:Nat):aM w B (.slice none 0 0) []:=.inl ⟨rfl,rfl⟩
theorem oy(g j:Nat):(⟨g,0,none⟩:Addr).add j=⟨g,j,none⟩:=by unfold Addr.add;split<;>simp_all
theorem aM.kept{B:Nat}(h:aM w B v l)(hs:w.heap.size<=w'.heap.size)(hk:∀g,v.ownBlock=some g->w'.heap[g]?=w.heap[g]?):aM w' B v l:=by
 rcases h with h|⟨g,cap,rfl,h1,h2,h3,h4,h5,h6⟩
 ·exact .inl h
 ·have e:=hk g rfl;refine .inr ⟨g,cap,rfl,h1,by omega,h3,h4,?_,?_⟩
  ·intro j b hj;rw[World.cell?_of_block (w:=w) (by exact e)];exact h5 j b hj
  ·intro j ha hb;rw[World.cell?_of_block (w:=w) (by exact e),World.frozen?_of_block (w:=w) (by exact e)];exact h6 j ha hb
theorem aM.lt{B:Nat}(h:aM w B v l):∀g,v.ownBlock=some g->B<=g/\g<w.heap.size:=by
 intro g hg;rcases h with⟨rfl,_⟩|⟨g',cap,rfl,h1,h2,_⟩
 ·simp[Value.ownBlock]at hg
 ·simp[Value.ownBlock]at hg;subst hg;exact⟨h1,h2⟩
theorem aM.below{B:Nat}(h:aM w B v l)(hb:ae w w'):aM w' B v l :=
 h.kept hb.size (λg hg=>hb.block g (h.lt g hg).2)
theorem aM.alloc{B:Nat}(h:aM w B v l)(o:Obj):aM (w.alloc o) B v l :=
 h.below ((bR _ _).alloc (nl _) o)
theorem aM.drew{B:Nat}(h:aM w B v l):aM w.drew B v l:=h.below (Below.refl _ _).drew
theorem aM.gH{B B':Nat}(h:w.ownsRow B' 5 1 v n (cz l))(hB:B<=B'):aM w B v l:=by
 have hlen:=h.1;rw[mc,Nat.mul_one]at hlen;rcases h.2 with⟨rfl,h0⟩|⟨g,cap,cur,rfl,hb,hg,hnc,hcm,hcs,htk⟩
 ·exact .inl ⟨rfl,List.eq_nil_of_length_eq_zero (by omega)⟩
 ·subst hlen;rw[Nat.mul_one]at htk hcs;refine .inr ⟨g,cap,rfl,by omega,(aG.1 hg).1,hnc,hcm,?_,?_⟩
  ·intro j b hj;have hj2:=(List.getElem?_eq_some_iff.1 hj).1;rw[cell_of_row w g j cur _ _ hg]
   have:(cur.toList.take l.length)[j]?=some (.int .u8 (b.toNat:Int)):=by
    rw[htk];simp[cz,hj]
   rw[List.getElem?_take,ax hj2]at this;simpa using this
  ·intro j ha hb2;rw[cell_of_row w g j cur _ _ hg];refine⟨?_,?_⟩
   ·rw[Array.getElem?_eq_getElem (by omega)];rfl
   ·simp[World.frozen?,hg]
theorem aM.of_string(w:World)(s:ByteArray)(hs:s.size<=140737488355328)(B:Nat)(hB:B<=w.heap.size) :
 ∃v w',(convert 9 29 (.string s)).run prog w=.ok v w'/\aM w' B v s.data.toList/\ae w w'/\v≠.slice none 0 0/\(∀g,v.ownBlock=some g->w.heap.size<=g):=by
 refine⟨_,_,run_bytes_of_string w _ _ _ s U9 gE U5,?_,?_,by simp,λg hg=>by simp[Value.ownBlock]at hg;omega⟩
 ·have hge:=grownCap_ge w s.size 0 5;have hcm:grownCap w s.size 0 5<=maxLen:=grownCap_le_maxLen w s.size 0 _ (fb hs)
  have hrs:(bytesRow s (grownCap w s.size 0 5)).size=grownCap w s.size 0 5:=by
   simp[bytesRow];have:s.data.size=s.size:=rfl;omega
  have hlen:s.data.toList.length=s.size:=by simp
  refine .inr ⟨w.heap.size,grownCap w s.size 0 5,by rw[hlen],hB,by simp,by omega,hcm,?_,?_⟩
  ·intro j b hj;have hj2:=(List.getElem?_eq_some_iff.1 hj).1;show((w.drew).alloc _).cell? ⟨w.drew.heap.size,j,none⟩=_;rw[World.cell?_alloc_mark];have hjs:j<s.data.size:=by simpa using hj2
   rw[bytesRow_at s _ j hjs]
   have:s.data[j]=b:=by
    rw[List.getElem?_eq_getElem hj2]at hj;simpa using hj
   rw[this]
  ·intro j ha hb;constructor
   ·show(((w.drew).alloc _).cell? ⟨w.drew.heap.size,j,none⟩).isSome=true;rw[World.cell?_alloc_mark,Array.getElem?_eq_getElem (by omega)];rfl
   ·show((w.drew).alloc _).frozen? ⟨w.drew.heap.size,j,none⟩=false;rw[World.frozen?_alloc_mark];simp;omega
 ·exact((bR _ w).drew).alloc (nl _) _
structure App(w w':World)(B:Nat)(v v':Value)(l':List UInt8):Prop where
 own:aM w' B v' l'
 below:Below B w w'
 block:∀g,g<w.heap.size->some g≠v.ownBlock->w'.heap[g]?=w.heap[g]?
 at_:∀g,v'.ownBlock=some g->v.ownBlock=some g\/w.heap.size<=g
 some_:v≠.slice none 0 0->v'≠.slice none 0 0
theorem App.cell{B:Nat}(h:App w w' B v v' l'){g o:Nat}(hg:g<w.heap.size)(hne:some g≠v.ownBlock):w'.cell? ⟨g,o,none⟩=w.cell? ⟨g,o,none⟩ :=
 fZ (w:=w) (h.block g hg hne)
theorem aM.form{B:Nat}(h:aM w B v l)(hv:v≠.slice none 0 0) :
 ∃g cap,v=.slice (some ⟨g,0,none⟩) l.length cap/\B<=g/\g<w.heap.size/\l.length<=cap/\cap<=maxLen/\(∀j b,l[j]?=some b->w.cell? ⟨g,j,none⟩=some (.int .u8 (b.toNat:Int))):=by
 rcases h with⟨h,_⟩|⟨g,cap,h0,h1,h2,h3,h4,h5,_⟩
 ·exact absurd h hv
 ·exact⟨g,cap,h0,h1,h2,h3,h4,h5⟩
theorem xc{base:Nat}{e:TypeId}{xs:List Value}(h:w.ownsRow base e 1 v n xs):∀g,v.ownBlock=some g->base<=g:=λg hg=>(h.lt g hg).1
theorem I9{B:Nat}(h:aM w B v l)(ty:TypeId)(b:UInt8)(ad:Addr)(c:Nat)(hx:w.cell? ad=some (.int .u8 (b.toNat:Int)))(hlen:l.length+1<=140737488355328)(hB:B<=w.heap.size)(hz:ad.spot=none) :
 ∃v' w',(Builtin.append_ #[29,29] ty #[v,.slice (some ad) 1 c]).run prog w=.ok v' w'/\App w w' B v v' (l++[b]):=by
 obtain⟨i0,hi,hz0,hz1,hz2⟩:=info_parts oq
 have hnews:∀j u,[Value.int .u8 (b.toNat:Int)][j]?=some u->w.cell? (ad.add j)=some u:=by
  intro j u hj
  cases j with
  |zero =>
   simp at hj;subst hj;have:ad.add 0=ad:=by obtain⟨a1,a2,a3⟩:=ad;simp at hz;subst hz;unfold Addr.add;split<;>simp_all
   rw[this];exact hx
  |succ j=>simp at hj
 rcases h with⟨rfl,rfl⟩|⟨g,cap,rfl,h1,h2,h3,h4,h5,h6⟩
 ·obtain⟨v',w',hr,ho,hg,_⟩:=run_append_own (P:=prog) w w.heap.size 29 ty 5 i0 (.int .u8 0) 1 1 gE hi hz0 hz1 hz2 rfl (by decide) _ 0 [] (World.ownsRow_nil w w.heap.size 5 1) ad 1 c [.int .u8 (b.toNat:Int)] rfl hnews (nz _) (fb (by omega)) (by omega) (nl _);exact⟨v',w',hr,aM.gH (l:=[b]) (by simpa[cz]using ho) hB,(bR _ _).grown hg hB (by simp[Value.ownBlock]),λk hk hne=>hg.block k hk hne,λg hg2=>Or.inr (xc ho g hg2),λh=>absurd rfl h⟩
 ·by_cases hroom:l.length+1<=cap
  ·have hr:=run_append_room_cells (P:=prog) w 29 ty 5 i0 gE hi g 0 l.length cap ad 1 c [.int .u8 (b.toNat:Int)] (by rw[hz1];rfl) hnews (nz _) hroom
    (λj hj=>by have:j=0:=(by simpa using hj);subst this;rw[hz1];simpa using(h6 l.length (nl _) (by omega)).1)
    (λj hj=>by have:j=0:=(by simpa using hj);subst this;rw[hz1];simpa using(h6 l.length (nl _) (by omega)).2)
   rw[hz1]at hr;simp only[Nat.zero_add,Nat.mul_one]at hr;refine⟨_,_,hr,.inr ⟨g,cap,by simp,h1,?_,by simp;omega,h4,?_,?_⟩,?_,?_,λg' hg'=>Or.inl hg',by simp⟩
   ·simp[World.setCells,World.setCell];exact h2
   ·intro j u hj;by_cases hjl:j<l.length
    ·rw[List.getElem?_append_left hjl]at hj;rw[World.cell?_setCells_out _ _ _ _ _ (by intro _ _;left;exact hjl)];exact h5 j u hj
    ·have xe:j<l.length+1:=by
      have:=(List.getElem?_eq_some_iff.1 hj).1;simpa using this
     obtain rfl:j=l.length:=by omega
     rw[List.getElem?_append_right (Nat.le_refl _),Nat.sub_self]at hj;simp at hj;subst hj
     have:=World.cell?_setCells_in g [.int .u8 (b.toNat:Int)] l.length w (λj hj=>by
      have:j=0:=by simpa using hj
      subst this
      exact(h6 l.length (nl _) (by omega)).1) 0 (by simp)
     simpa using this
   ·intro j ha hb;simp only[List.length_append,List.length_singleton]at ha;rw[World.cell?_setCells_out _ _ _ _ _ (by intro _ _;right;simp;omega),World.frozen?_setCells];exact h6 j (by omega) hb
   ·simp only[World.setCells];exact(bR _ _).setCell (p:=⟨g,l.length,none⟩) h1 _
   ·intro k hk hne;simp only[World.setCells];exact jB _ _ _ _ (λe=>hne (by simp[Value.ownBlock,e]))
  ·obtain⟨v',w',hr,ho,hg⟩:=run_append_arg_grows (P:=prog) w 29 ty 5 i0 (.int .u8 0) 1 1 gE hi hz0 hz1 hz2 rfl (by decide) ⟨g,0,none⟩ l.length cap (cz l) (by rw[mc,Nat.mul_one])
    (λj u hj=>by
     simp only[cz,List.getElem?_map,Option.map_eq_some_iff]at hj;obtain⟨b',hb',rfl⟩:=hj;rw[oy]
     exact h5 j b' hb') ad 1 c [.int .u8 (b.toNat:Int)] rfl hnews (by omega) (fb (by omega)) (by omega)
   refine⟨v',w',hr,aM.gH (l:=l++[b]) (n:=l.length+1) (by rw[uo];exact ho) hB,(bR _ _).grown hg hB (by simp),λk hk _=>hg.block k hk (by simp),λg hg2=>Or.inr (xc ho g hg2),λ_ e=>?_⟩;subst e;rcases ho.2 with⟨_,h0⟩|⟨g',cap',cur',h0,_⟩
   ·omega
   ·simp at h0
theorem Cc(s:ByteArray):Lib.strCells s=cz s.data.toList:=rfl
theorem Ja{B:Nat}(h:aM w B v l)(ty:TypeId)(s:ByteArray)(hlen:l.length+s.size<=140737488355328)(hB:B<=w.heap.size) :
 ∃v' w',(Builtin.append_ #[29,9] ty #[v,.string s]).run prog w=.ok v' w'/\App w w' B v v' (l++s.data.toList):=by
 obtain⟨i0,hi,hz0,hz1,hz2⟩:=info_parts oq;have hsl:s.data.toList.length=s.size:=by simp
 rcases h with⟨rfl,rfl⟩|⟨g,cap,rfl,h1,h2,h3,h4,h5,h6⟩
 ·obtain⟨v',w',hr,ho,hg,_⟩:=Lib.run_append_own_string (P:=prog) w w.heap.size 29 9 ty 5 i0 gE U9 hi hz0 hz1 hz2 _ 0 [] (World.ownsRow_nil w w.heap.size 5 1) s (fb (by simpa using hlen)) (by simpa using hlen) (nl _);exact⟨v',w',hr,aM.gH (l:=s.data.toList) (by rw[<-Cc];exact ho) hB,(bR _ _).grown hg hB (by simp[Value.ownBlock]),λk hk hne=>hg.block k hk hne,λg hg2=>Or.inr (xc ho g hg2),λh=>absurd rfl h⟩
 ·by_cases hroom:l.length+s.size<=cap
  ·have hf:=Lib.run_firstCells_string (P:=prog) w 1 s;have hst:=run_storeCells_cells (P:=prog) g l.length (Lib.strCells s) 0 w
    (λj hj=>by rw[Lib.strCells_length]at hj;exact(h6 _ (by omega) (by omega)).1)
    (λj hj=>by rw[Lib.strCells_length]at hj;exact(h6 _ (by omega) (by omega)).2) (Lib.strCells_oneCell s)
   simp only[Nat.add_zero]at hst
   have hr:(Builtin.append_ #[29,9] ty #[.slice (some ⟨g,0,none⟩) l.length cap,.string s]).run prog w=.ok (.slice (some ⟨g,0,none⟩) (l.length+s.size) cap) (w.setCells g l.length (Lib.strCells s)):=by
    simp[Builtin.append_,run_underlying underlying29,run_underlying underlying9,sizeOf,typeInfo,hi,hz1,Builtin.lenOf,hroom,hf,Addr.add_lit,hst]
   have hsize:∀(vs:List Value) (o:Nat) (w:World),(w.setCells g o vs).heap.size=w.heap.size:=by
    intro vs
    induction vs with
    |nil=>intro o w;rfl
    |cons a vs ih=>intro o w;rw[World.setCells,ih];simp[World.setCell]
   have hblk:∀(vs:List Value) (o:Nat) (w:World) (k:Nat),k≠g->(w.setCells g o vs).heap[k]?=w.heap[k]?:=by
    intro vs
    induction vs with
    |nil=>intro o w k _;rfl
    |cons a vs ih=>intro o w k hk;rw[World.setCells,ih _ _ _ hk];exact jB _ _ _ _ hk
   have hbel:∀(vs:List Value) (o:Nat) (a w:World),Below B a w->Below B a (w.setCells g o vs):=by
    intro vs
    induction vs with
    |nil=>intro o a w h;exact h
    |cons x vs ih=>intro o a w h;rw[World.setCells];exact ih _ _ _ (h.setCell (p:=⟨g,o,none⟩) h1 _)
   refine⟨_,_,hr,.inr ⟨g,cap,by simp,h1,?_,by simp;omega,h4,?_,?_⟩,hbel _ _ _ _ (bR _ _),?_,λg' hg'=>Or.inl hg',by simp⟩
   ·rw[hsize];exact h2
   ·intro j u hj;by_cases hjl:j<l.length
    ·rw[List.getElem?_append_left hjl]at hj;rw[World.cell?_setCells_out _ _ _ _ _ (by intro _ _;left;exact hjl)];exact h5 j u hj
    ·rw[List.getElem?_append_right (by omega)]at hj
     have hj2:j-l.length<(Lib.strCells s).length:=by
      rw[Lib.strCells_length];have:=(List.getElem?_eq_some_iff.1 hj).1;omega
     have hin:=World.cell?_setCells_in g (Lib.strCells s) l.length w (λj hj=>by
      rw[Lib.strCells_length]at hj
      exact(h6 _ (by omega) (by omega)).1) (j-l.length) hj2
     rw[show l.length+(j-l.length)=j by omega]at hin;rw[hin];have:(Lib.strCells s)[j-l.length]?=some (.int .u8 (u.toNat:Int)):=by simp[Lib.strCells,hj]
     rw[List.getElem?_eq_getElem hj2]at this;exact this
   ·intro j ha hb;simp only[List.length_append,hsl]at ha;rw[World.cell?_setCells_out _ _ _ _ _ (by intro _ _;right;rw[Lib.strCells_length];omega),World.frozen?_setCells];exact h6 j (by omega) hb
   ·intro k hk hne;exact hblk _ _ _ _ (λe=>hne (by simp[Value.ownBlock,e]))
  ·have hr:=Lib.run_append_grow_string (P:=prog) w 29 9 ty 5 i0 (.int .u8 0) gE U9 hi hz0 ⟨g,0,none⟩ l.length cap (cz l) (by rw[mc,hz1,Nat.mul_one])
    (λj u hj=>by
     simp only[cz,List.getElem?_map,Option.map_eq_some_iff]at hj;obtain⟨b',hb',rfl⟩:=hj;rw[oy]
     exact h5 j b' hb') s (by omega) (by omega) (by rw[hz2];exact growslice_fits (by omega) (by omega))
   have hge:=grownCap_ge w (l.length+s.size) cap 5;have hcm:grownCap w (l.length+s.size) cap 5<=maxLen:=grownCap_le_maxLen w (l.length+s.size) cap _ (fb hlen);refine⟨_,_,hr,aM.gH (B':=w.heap.size) (n:=l.length+s.size) ⟨?_,.inr ⟨w.heap.size,_,_,rfl,nl _,heap_alloc_new w.drew _,hge,hcm,?_,?_⟩⟩ hB,?_,?_,λg' hg'=>by simp[Value.ownBlock]at hg';omega,by simp⟩
   ·rw[mc];simp
   ·have hz1':(Value.int IntKind.u8 0).cells.size=1:=rfl;simp only[Array.size_append,List.size_toArray,size_zeroCells,hz1',mc,Lib.strCells_length];omega
   ·simp only[Array.toList_append,List.append_assoc];rw[<-List.append_assoc,Cc];have:(l.length+s.size)*1=(cz l++cz s.data.toList).length:=by rw[List.length_append,mc,mc,hsl];omega
    rw[this,uo];exact List.take_left
   ·exact((bR B w).drew).alloc (by exact hB) _
   ·intro k hk _;exact Below.heap_alloc w.drew _ k hk
theorem aM.conv(h:∀j b,l[j]?=some b->w.cell? ⟨g,j,none⟩=some (.int .u8 (b.toNat:Int)))(d c:Nat) :
 (convert 29 9 (.slice (some ⟨g,d,none⟩) (l.length-d) c)).run prog w=.ok (.string ⟨(l.drop d).toArray⟩) w:=by
 have e:l.length-d=(l.drop d).length:=by simp
 rw[e];refine run_convert_bytes_back w _ _ _ ⟨g,d,none⟩ c (l.drop d) gE U5 U9 (λj hj=>?_);have ha:(⟨g,d,none⟩:Addr).add j=⟨g,d+j,none⟩:=by unfold Addr.add;split<;>simp_all
 rw[ha];refine h (d+j) _ ?_;rw[<-List.getElem?_drop,List.getElem?_eq_getElem hj]
section
variable {ops:Array Oper} {rest:List Oper} {o:Oper} {a:Act} {Q:Exit->Act->World->Prop}
theorem Jb(w:World)(hgd:o.guard=none)(s x:Operand)(ho:o.op=.call { callee:=.builtin .append,args:=#[s,x],argTypes:=#[29,29] })
 (B:Nat) (v:Value) (l:List UInt8) (hs:a.eval s=v) (h:aM w B v l) (b:UInt8) (g c:Nat) (hx:a.eval x=.slice (some ⟨g,0,none⟩) 1 c) (hc:w.cell? ⟨g,0,none⟩=some (.int .u8 (b.toNat:Int)))
 (hlen:l.length+1<=140737488355328) (hB:B<=w.heap.size)
 (hK:∀v' w',App w w' B v v' (l++[b])->wpList prog ops Q rest (a.put o.dst v') w'):wpList prog ops Q (o :: rest) a w:=by
 refine wpList_plain hgd λK hK'=>?_
 obtain⟨v',w',hr,r1⟩:=I9 h o.type b ⟨g,0,none⟩ c hc hlen hB rfl;unfold Oper.wp execOp;simp only[ho,resolve,invoke,builtin,Sem.run_bind,Sem.run_pure,Result.andThen_ok,List.map_toArray,List.map_cons,List.map_nil,hs,hx,hr];exact hK' _ _ (hK v' w' r1)
theorem da(w:World)(hgd:o.guard=none)(sl x:Operand)(ho:o.op=.call { callee:=.builtin .append,args:=#[sl,x],argTypes:=#[29,9] })
 (B:Nat) (v:Value) (l:List UInt8) (hs:a.eval sl=v) (h:aM w B v l) (s:ByteArray) (hx:a.eval x=.string s)
 (hlen:l.length+s.size<=140737488355328) (hB:B<=w.heap.size)
 (hK:∀v' w',App w w' B v v' (l++s.data.toList)->wpList prog ops Q rest (a.put o.dst v') w'):wpList prog ops Q (o :: rest) a w:=by
 refine wpList_plain hgd λK hK'=>?_
 obtain⟨v',w',hr,r1⟩:=Ja h o.type s hlen hB;unfold Oper.wp execOp;simp only[ho,resolve,invoke,builtin,Sem.run_bind,Sem.run_pure,Result.andThen_ok,List.map_toArray,List.map_cons,List.map_nil,hs,hx,hr];exact hK' _ _ (hK v' w' r1)
end
theorem Ce(s:ByteArray):s.toList.isEmpty=true↔s.size=0:=by
 rw[Lib.toList_data,List.isEmpty_iff_length_eq_zero];have:s.data.toList.length=s.size:=by simp
 rw[this]
theorem kx(h:s.size=0):s.toList.isEmpty=true:=(Ce s).2 h
theorem ky(h:s.size≠0):s.toList.isEmpty=false:=by
 cases e:s.toList.isEmpty with
 |false=>rfl
 |true=>exact absurd ((Ce s).1 e) h
def fits(D M:Int)(L:Bool)(lit:ByteArray)(far len:Int):Bool :=
 if lit.size≠0 then decide (far=0/\len=0/\L=false) else decide (3<=len/\len<=64/\1<=far/\far<=D+M)
theorem Jc(g:Nat)(D M:Int)(L:Bool)(lit:ByteArray)(far len:Int)(w:World)(hg:g<w.heap.size)
 (h2:w.cell? ⟨g,2,none⟩=some (.bool L)) (hl:lit.size≠0) :
 CB 237 #[.pointer (some ⟨g,0,none⟩),.agg #[.string lit,.int .i64 far,.int .i64 len]] w (.bool (fits D M L lit far len)):=by
 have hE:=ky hl;by_cases hf:far=0
 ·have hf':(far==0)=true:=by simp[hf]
  by_cases hn:len=0
  ·have hn':(len==0)=true:=by simp[hn]
   have HR:Hid (fits D M L lit far len=!L):=by
    show fits D M L lit far len=!L;unfold fits;rw[ax hl]
    cases L<;>simp[hf,hn]
   clear hf hn;go_enter func237,ntmps237
   go_wp2_with fail
   go_ret
   exact⟨by rw[HR.out];rfl,(bR _ _).alloc (nl _) _⟩
  ·have hn':(len==0)=false:=by simp[hn]
   have HR:Hid (fits D M L lit far len=false):=by
    show fits D M L lit far len=false;unfold fits;rw[ax hl];simp[hn]
   clear hf hn;go_enter func237,ntmps237
   go_wp2_with fail
   go_ret
   exact⟨by rw[HR.out];rfl,(bR _ _).alloc (nl _) _⟩
 ·have hf':(far==0)=false:=by simp[hf]
  have HR:Hid (fits D M L lit far len=false):=by
   show fits D M L lit far len=false;unfold fits;rw[ax hl];simp[hf]
  clear hf;go_enter func237,ntmps237
  go_wp2_with fail
  go_ret
  exact⟨by rw[HR.out];rfl,(bR _ _).alloc (nl _) _⟩
theorem Jd(g:Nat)(D M:Int)(L:Bool)(lit:ByteArray)(far len:Int)(w:World)(hg:g<w.heap.size)
 (h0:w.cell? ⟨g,0,none⟩=some (.int .i64 D)) (h1:w.cell? ⟨g,1,none⟩=some (.int .i64 M))
 (hD0:0<=D) (hD1:D<=256) (hM0:0<=M) (hM1:M<=512) (hl:lit.size=0) :
 CB 237 #[.pointer (some ⟨g,0,none⟩),.agg #[.string lit,.int .i64 far,.int .i64 len]] w (.bool (fits D M L lit far len)):=by
 have hE:=kx hl;have hF:fits D M L lit far len=decide (3<=len/\len<=64/\1<=far/\far<=D+M):=by unfold fits;rw[ab (by omega)]
 have hr1:IntKind.i64.wrap (D+M)=D+M:=IntWalk.i64_in _ ⟨by omega,by omega⟩;by_cases a1:3<=len
 ·have b1:=al (by omega:3<=len);by_cases a2:len<=64
  ·have b2:=al (by omega:len<=64);by_cases a3:1<=far
   ·have b3:=al (by omega:1<=far);by_cases a4:far<=D+M
    ·have b4:=al (by omega:far<=D+M);have HR:Hid (fits D M L lit far len=true):=by rw[hF];show decide _=true;simp;omega
     clear hF;go_enter func237,ntmps237
     go_wp2_with fail
     go_quiet (fail)
     go_wp2_with fail
     go_ret
     exact⟨by rw[HR.out];rfl,below_drewN ((bR _ _).alloc (nl _) _) _⟩
    ·have b4:=dF (by omega:¬(far<=D+M));have HR:Hid (fits D M L lit far len=false):=by rw[hF];show decide _=false;simp;omega
     clear hF;go_enter func237,ntmps237
     go_wp2_with fail
     go_quiet (fail)
     go_wp2_with fail
     go_ret
     exact⟨by rw[HR.out];rfl,below_drewN ((bR _ _).alloc (nl _) _) _⟩
   ·have b3:=dF (by omega:¬(1<=far));have HR:Hid (fits D M L lit far len=false):=by rw[hF];show decide _=false;simp;omega
    clear hF;go_enter func237,ntmps237
    go_wp2_with fail
    go_quiet (fail)
    go_wp2_with fail
    go_ret
    exact⟨by rw[HR.out];rfl,below_drewN ((bR _ _).alloc (nl _) _) _⟩
  ·have b2:=dF (by omega:¬(len<=64));have HR:Hid (fits D M L lit far len=false):=by rw[hF];show decide _=false;simp;omega
   clear hF;go_enter func237,ntmps237
   go_wp2_with fail
   go_quiet (fail)
   go_wp2_with fail
   go_ret
   exact⟨by rw[HR.out];rfl,below_drewN ((bR _ _).alloc (nl _) _) _⟩
 ·have b1:=dF (by omega:¬(3<=len));have HR:Hid (fits D M L lit far len=false):=by rw[hF];show decide _=false;simp;omega
  clear hF;go_enter func237,ntmps237
  go_wp2_with fail
  go_quiet (fail)
  go_wp2_with fail
  go_ret
  exact⟨by rw[HR.out];rfl,below_drewN ((bR _ _).alloc (nl _) _) _⟩
theorem Je(g:Nat)(D M:Int)(L:Bool)(lit:ByteArray)(far len:Int)(w:World)(hg:g<w.heap.size)
 (h0:w.cell? ⟨g,0,none⟩=some (.int .i64 D)) (h1:w.cell? ⟨g,1,none⟩=some (.int .i64 M)) (h2:w.cell? ⟨g,2,none⟩=some (.bool L))
 (hD0:0<=D) (hD1:D<=256) (hM0:0<=M) (hM1:M<=512) :
 CB 237 #[.pointer (some ⟨g,0,none⟩),.agg #[.string lit,.int .i64 far,.int .i64 len]] w (.bool (fits D M L lit far len)):=by
 by_cases hl:lit.size=0
 ·exact Jd g D M L lit far len w hg h0 h1 hD0 hD1 hM0 hM1 hl
 ·exact Jc g D M L lit far len w hg h2 hl
def dd(w:World)(B g:Nat)(D M:Int)(L:Bool):Prop :=
 B<=g/\g<w.heap.size/\w.cell? ⟨g,0,none⟩=some (.int .i64 D)/\w.cell? ⟨g,1,none⟩=some (.int .i64 M)/\w.cell? ⟨g,2,none⟩=some (.bool L)/\w.frozen? ⟨g,1,none⟩=false/\w.frozen? ⟨g,2,none⟩=false
theorem dd.below{B:Nat}{D:Int}(h:dd w B g D M L)(hb:ae w w'):dd w' B g D M L:=by
 obtain⟨a,b,c0,c1,c2,f1,f2⟩:=h;exact⟨a,nT b hb.size,(hb.cell (by exact b)).trans c0,(hb.cell (by exact b)).trans c1,(hb.cell (by exact b)).trans c2,(hb.frozen (by exact b)).trans f1,(hb.frozen (by exact b)).trans f2⟩
theorem dd.set2{B:Nat}{D:Int}(h:dd w B g D M L)(n:Nat)(M':Int)(L':Bool) :
 dd (((w.drewN n).setCell ⟨g,1,none⟩ (.int .i64 M')).setCell ⟨g,2,none⟩ (.bool L')) B g D M' L':=by
 obtain⟨a,b,c0,c1,c2,f1,f2⟩:=h;have d0:(w.drewN n).cell? ⟨g,0,none⟩=some (.int .i64 D):=c0;have d1:(w.drewN n).cell? ⟨g,1,none⟩=some (.int .i64 M):=c1;have d2:(w.drewN n).cell? ⟨g,2,none⟩=some (.bool L):=c2;refine⟨a,by simpa[World.setCell]using b,?_,?_,?_,?_,?_⟩
 ·rw[World.cell?_setCell_other _ _ _ _ (by simp),World.cell?_setCell_other _ _ _ _ (by simp)];exact d0
 ·rw[World.cell?_setCell_other _ _ _ _ (by simp)];exact cS _ _ _ d1
 ·refine cS _ _ _ (u:=.bool L) ?_;rw[World.cell?_setCell_other _ _ _ _ (by simp)];exact d2
 ·rw[World.frozen?_setCell,World.frozen?_setCell];exact f1
 ·rw[World.frozen?_setCell,World.frozen?_setCell];exact f2
theorem dd.alloc{B:Nat}{D:Int}(h:dd w B g D M L)(o:Obj):dd (w.alloc o) B g D M L:=h.below ((Below.refl _ _).alloc (Nat.le_refl _) o)
theorem xg{B:Nat}{D:Int}(h:dd w B g D M L)(lit:ByteArray)(far len:Int)(hD0:0<=D)(hD1:D<=256)(hM0:0<=M)(hM1:M<=512) :
 CB 237 #[.pointer (some ⟨g,0,none⟩),.agg #[.string lit,.int .i64 far,.int .i64 len]] w (.bool (fits D M L lit far len)) :=
 Je g D M L lit far len w h.2.1 h.2.2.1 h.2.2.2.1 h.2.2.2.2.1 hD0 hD1 hM0 hM1
theorem Cf(B g:Nat)(D M:Int)(L:Bool)(lit:ByteArray)(far len:Int)(w:World)(h:dd w B g D M L)
 (hD0:0<=D) (hD1:D<=256) (hM0:0<=M) (hM1:M<=512) (hF:fits D M L lit far len=false) :
 CB 210 #[.pointer (some ⟨g,0,none⟩),.agg #[.string lit,.int .i64 far,.int .i64 len]] w (.int .i64 1):=by
 go_enter func210,ntmps210
 go_wp2_with fail
 refine mo (xg (h.alloc _) lit far len hD0 hD1 hM0 hM1) λw1 hb=>?_
 go_wp2_with fail
 go_ret
 exact⟨rfl,ag ((bR _ _).alloc (nl _) _) hb⟩
theorem Cg{w1:World}{T:TypeId}(hb:Below (w.alloc (.cells #[x,y,z] T)).heap.size (w.alloc (.cells #[x,y,z] T)) w1) :
 w1.cell? ⟨w.heap.size,0,none⟩=some x/\w1.cell? ⟨w.heap.size,1,none⟩=some y/\w1.cell? ⟨w.heap.size,2,none⟩=some z:=by
 refine⟨(hb.cell (by simp)).trans ?_,(hb.cell (by simp)).trans ?_,(hb.cell (by simp)).trans ?_⟩<;>(rw[World.cell?_alloc_mark];rfl)
theorem Ch(B g:Nat)(D M:Int)(L:Bool)(lit:ByteArray)(far len:Int)(w:World)(h:dd w B g D M L)
 (hD0:0<=D) (hD1:D<=256) (hM0:0<=M) (hM1:M<=512) (hlit:lit.size<=140737488355328) (hln:0<=len/\len<=64) (hF:fits D M L lit far len=true) (hbig:512<M+lit.size+len) :
 CB 210 #[.pointer (some ⟨g,0,none⟩),.agg #[.string lit,.int .i64 far,.int .i64 len]] w (.int .i64 2):=by
 obtain⟨hl0,hl1⟩:=hln;have hs:(lit.size:Int)<=140737488355328:=by omega
 have hr1:IntKind.i64.wrap (M+(lit.size:Int))=M+(lit.size:Int):=IntWalk.i64_in _ ⟨by omega,by omega⟩;have hr2:IntKind.i64.wrap (M+(lit.size:Int)+len)=M+(lit.size:Int)+len:=IntWalk.i64_in _ ⟨by omega,by omega⟩;have hd:=al (by omega:512<M+(lit.size:Int)+len);go_enter func210,ntmps210
 go_wp2_with fail
 refine mo (xg (h.alloc _) lit far len hD0 hD1 hM0 hM1) λw1 hb=>?_
 have hm:=(h.alloc (.cells #[.string lit,.int .i64 far,.int .i64 len] 177)).below hb;obtain⟨k0,k1,k2⟩:=Cg hb;have m1:=hm.2.2.2.1;clear hm;go_wp2_with fail
 go_quiet (fail)
 go_wp2_with fail
 go_ret
 exact⟨rfl,below_drewN (ag ((bR _ _).alloc (nl _) _) hb) _⟩
theorem Ci(B g:Nat)(D M:Int)(L:Bool)(lit:ByteArray)(far len:Int)(w:World)(h:dd w B g D M L)
 (hD0:0<=D) (hD1:D<=256) (hM0:0<=M) (hM1:M<=512) (hln:0<=len/\len<=64) (hF:fits D M L lit far len=true) (hok:M+lit.size+len<=512) :
 Calls prog 210 #[.pointer (some ⟨g,0,none⟩),.agg #[.string lit,.int .i64 far,.int .i64 len]] w λe w'=>e=.returned (.int .i64 0)/\Below B w w'/\dd w' B g D (M+lit.size+len) (!lit.toList.isEmpty)/\Hid (∀k,k<w.heap.size->k≠g->w'.heap[k]?=w.heap[k]?):=by
 obtain⟨hl0,hl1⟩:=hln;have hs:(lit.size:Int)<=512:=by omega
 have hr1:IntKind.i64.wrap (M+(lit.size:Int))=M+(lit.size:Int):=IntWalk.i64_in _ ⟨by omega,by omega⟩;have hr2:IntKind.i64.wrap (M+(lit.size:Int)+len)=M+(lit.size:Int)+len:=IntWalk.i64_in _ ⟨by omega,by omega⟩;have hd:=dF (by omega:¬(512<M+(lit.size:Int)+len));have hgw:=h.2.1;have hBg:=h.1;go_enter func210,ntmps210
 go_wp2_with fail
 refine mo (xg (h.alloc _) lit far len hD0 hD1 hM0 hM1) λw1 hb=>?_
 have hm:=(h.alloc (.cells #[.string lit,.int .i64 far,.int .i64 len] 177)).below hb;obtain⟨k0,k1,k2⟩:=Cg hb;have HM:=Za hm;obtain⟨_,m0,m1,m2,m3,m4,m5⟩:=hm;have hne:¬g=w.heap.size:=by omega
 have hne2:¬w.heap.size=g:=by omega
 go_wp2_with fail
 go_quiet (fail)
 go_wp2_with fail
 go_ret
 have hB1:Below B w w1:=(((bR _ _).alloc (nl _) _).trans (hb.mono (by simp))).mono (by omega);refine⟨rfl,((below_drewN hB1 nq).setCell (p:=⟨g,1,none⟩) hBg _).setCell (p:=⟨g,2,none⟩) hBg _,HM.out.set2 nq _ _,λk hk hkg=>?_⟩;rw[Below.heap_setCell _ _ _ _ (by exact hkg),Below.heap_setCell _ _ _ _ (by exact hkg)];show w1.heap[k]?=_;rw[hb.block k (by simp;omega)];exact Below.heap_alloc _ _ _ hk
theorem Cj(d:Nat)(s:List UInt8)(p:Bool)(t:Tk.T)(M:Int)(hM:M=(s.length:Int)-d) :
 VQ d s p t=if fits d M p t.lit t.far t.len=false then 1 else if 512<M+t.lit.size+t.len then 2 else 0:=by
 unfold VQ fits;by_cases h0:t.lit.size≠0
 ·rw[ax h0,ax h0];by_cases h1:t.far≠0\/t.len≠0\/p=true
  ·rw[ax h1,ax];simp only[decide_eq_false_iff_not];rintro⟨a,b,c⟩;rcases h1 with h|h|h
   ·exact h a
   ·exact h b
   ·rw[c]at h;cases h
  ·have ha:t.far=0:=by
    by_cases e:t.far=0
    ·exact e
    ·exact absurd (Or.inl e) h1
   have hb:t.len=0:=by
    by_cases e:t.len=0
    ·exact e
    ·exact absurd (Or.inr (Or.inl e)) h1
   have hc:p=false:=by
    cases p
    ·rfl
    ·exact absurd (Or.inr (Or.inr rfl)) h1
   rw[ab h1];rw[ab (c:=decide (t.far=0/\t.len=0/\p=false)=false) (by simp[ha,hb,hc])];rw[hb,hM];simp
 ·rw[ab h0,ab h0];by_cases h1:3<=t.len/\t.len<=64/\1<=t.far/\t.far<=s.length
  ·rw[ab (by simpa using h1),ab (c:=decide (3<=t.len/\t.len<=64/\1<=t.far/\t.far<=(d:Int)+M)=false) (by simp;omega),hM];have:(t.lit.size:Int)=0:=by omega
   rw[this,Int.add_zero]
  ·rw[ax h1,ax];simp only[decide_eq_false_iff_not];omega
def jE(w:World)(b off:Nat)(l:List Tk.T):Prop :=
 ∀i (h:i<l.length),w.cell? ⟨b,off+i*3,none⟩=some (.string l[i].lit)/\w.cell? ⟨b,off+i*3+1,none⟩=some (.int .i64 l[i].far)/\w.cell? ⟨b,off+i*3+2,none⟩=some (.int .i64 l[i].len)
def cJ(w:World)(ad:Option Addr)(l:List Tk.T):Prop:=l=[]\/∃b off,ad=some ⟨b,off,none⟩/\b<w.heap.size/\jE w b off l
theorem cJ.below{ad:Option Addr}{l:List Tk.T}(h:cJ w ad l)(hb:ae w w'):cJ w' ad l:=by
 rcases h with h|⟨b,off,rfl,hlt,ht⟩
 ·exact .inl h
 ·refine .inr ⟨b,off,rfl,nT hlt hb.size,λi hi=>?_⟩;have:=ht i hi;rw[hb.cell (by exact hlt),hb.cell (by exact hlt),hb.cell (by exact hlt)];exact this
def bu(l:List Tk.T):Prop:=l.length<=140737488355328/\∀t∈l,t.lit.size<=140737488355328
def Zw(dict:ByteArray)(l:List Tk.T):Int:=if 256<dict.size then 2 else(VK dict.size dict.data.toList false l).1
theorem Cm{D:Int}{lit:ByteArray}{far len:Int}(h:fits D M L lit far len=true):0<=len/\len<=64:=by
 unfold fits at h;split at h
 ·have:=of_decide_eq_true h;omega
 ·have:=of_decide_eq_true h;omega
theorem Jf(dict:ByteArray)(ad:Option Addr)(n cap:Nat)(w:World)(hd:256<dict.size) :
 CB 180 #[.string dict,.slice ad n cap] w (.int .i64 2):=by
 have h:=al (by omega:(256:Int)<(dict.size:Int));have h':(256:Int)<(dict.size:Int):=by omega
 go_enter func180,ntmps180
 go_wp2_with fail
 go_ret
 exact⟨rfl,bR _ _⟩
theorem xh(dict:ByteArray)(ad:Option Addr)(cap:Nat)(w:World)(hd:dict.size<=256) :
 CB 180 #[.string dict,.slice ad 0 cap] w (.int .i64 0):=by
 have h:=dF (by omega:¬((256:Int)<(dict.size:Int)));have h':(dict.size:Int)<=256:=by omega
 go_enter func180,ntmps180
 go_wp2_with fail
 refine wp_loop_rounds 1 ?_;rw[rounds_succ];go_wp2_with fail
 go_ret
 exact⟨rfl,(bR _ _).alloc (nl _) _⟩
theorem xi(dict:ByteArray)(b off cap:Nat)(l:List Tk.T)(w:World)(hd:dict.size<=256)(hb:b<w.heap.size)(hl:jE w b off l)(hs:bu l) :
 CB 180 #[.string dict,.slice (some ⟨b,off,none⟩) l.length cap] w (.int .i64 (VK dict.size dict.data.toList false l).1):=by
 have h:=dF (by omega:¬((256:Int)<(dict.size:Int)));have h':(dict.size:Int)<=256:=by omega
 have hn:=hs.1;have hn':(l.length:Int)<=140737488355328:=by omega
 go_enter func180,ntmps180
 go_wp2_with fail
 go_loopw [17] (λi wr=>∃(k:Nat) (s:List UInt8) (p:Bool),k<=l.length/\i=.int .i64 k/\Hid (VK dict.size dict.data.toList false l=VK dict.size s p (l.drop k)) ∧
  dict.size<=s.length/\s.length<=dict.size+512/\dd wr w.heap.size w.heap.size dict.size ((s.length:Int)-dict.size) p/\ae w wr)
  (λi _=>l.length-(intOf i).toNat)
 case atStart =>
  refine⟨0,dict.data.toList,false,by omega,rfl,rfl,?_,?_,?_,(bR _ _).alloc (nl _) _⟩
  ·simp
  ·simp
  ·have e:((dict.data.toList.length:Int)-dict.size)=0:=by simp
   rw[e];exact⟨nl _,by simp,by rw[World.cell?_alloc_mark];rfl,by rw[World.cell?_alloc_mark];rfl,by rw[World.cell?_alloc_mark];rfl,by rw[World.frozen?_alloc_mark];simp,by rw[World.frozen?_alloc_mark];simp⟩
 case round =>
  obtain⟨k,s,p,hk,rfl,hrun,hs1,hs2,hm,G⟩:=hrel;by_cases hlt:k<l.length
  ·have hdrop:=List.drop_eq_getElem_cons hlt;have hef:=Cj dict.size s p l[k] _ rfl;obtain⟨c0,c1,c2⟩:=hl k hlt;have hlit:=hs.2 l[k] (gM hlt);rw[<-G.cell (by exact hb)]at c0 c1 c2;generalize l[k]=t at*;have Hm:=Za hm;have hM0:0<=(s.length:Int)-dict.size:=by omega
   have hM1:(s.length:Int)-dict.size<=512:=by omega
   have hD0:(0:Int)<=(dict.size:Int):=by omega
   have HE:=Za hef
   have HR:Hid (VK dict.size dict.data.toList false l=VK dict.size s p (t :: l.drop (k+1))):=by
    show _=_;rw[hrun.out,hdrop]
   have hgs:=G.size;have iK:=hm.2.1;clear hm hef hdrop hrun hl hs
   cases hF:fits dict.size ((s.length:Int)-dict.size) p t.lit t.far t.len with
   |false =>
    have HX:Hid ((VK dict.size dict.data.toList false l).1=1):=by
     have he:VQ dict.size s p t=1:=by rw[HE.out,ax hF]
     show _=_;rw[HR.out,iC (by omega),he]
    go_wp2_with fail
    refine mo (Cf w.heap.size w.heap.size dict.size ((s.length:Int)-dict.size) p t.lit t.far t.len _ (Hm.out.alloc _) hD0 h' hM0 hM1 hF) λw1 hb1=>?_
    go_wp2_with fail
    go_ret
    exact⟨by rw[HX.out];rfl,ag (G.alloc hgs _) hb1⟩
   |true =>
    have hln:=Cm hF;by_cases hbig:512<(s.length:Int)-dict.size+t.lit.size+t.len
    ·have HX:Hid ((VK dict.size dict.data.toList false l).1=2):=by
      have he:VQ dict.size s p t=2:=by rw[HE.out,ab (by rw[hF];simp),ax hbig]
      show _=_;rw[HR.out,iC (by omega),he]
     go_wp2_with fail
     refine mo (Ch w.heap.size w.heap.size dict.size ((s.length:Int)-dict.size) p t.lit t.far t.len _ (Hm.out.alloc _) hD0 h' hM0 hM1 hlit hln hF hbig) λw1 hb1=>?_
     go_wp2_with fail
     go_ret
     exact⟨by rw[HX.out];rfl,ag (G.alloc hgs _) hb1⟩
    ·have he:VQ dict.size s p t=0:=by rw[HE.out,ab (by rw[hF];simp),ab hbig]
     have hmk:=X8 he
     have HX:Hid (VK dict.size dict.data.toList false l=VK dict.size (Wh s t) (decide (t.lit.size≠0)) (l.drop (k+1))):=by
      show _=_;rw[HR.out,Xm he]
     have HK:=Za hmk.1
     have HD:Hid ((!t.lit.toList.isEmpty)=decide (t.lit.size≠0)):=by
      show _=_;by_cases h0:t.lit.size=0
      ·rw[kx h0];simp[h0]
      ·rw[ky h0];simp[h0]
     clear he hmk;go_wp2_with fail
     refine mo (Ci w.heap.size w.heap.size dict.size ((s.length:Int)-dict.size) p t.lit t.far t.len _ (Hm.out.alloc _) hD0 h' hM0 hM1 hln hF (by omega)) ?_;rintro w1 ⟨hb1,hm1,_⟩;have mg:=Za hm1;clear hm1;go_wp2_with fail
     go_roundw
     case rel =>
      have hk1:=HK.out;refine⟨k+1,Wh s t,decide (t.lit.size≠0),by omega,by go_num,HX,by omega,by omega,?_,(G.alloc hgs _).trans hb1⟩;rw[<-HD.out,show((Wh s t).length:Int)-dict.size=(s.length:Int)-dict.size+t.lit.size+t.len by omega];exact mg.out
     case measure=>simp[intOf];omega
  ·have HX:Hid ((VK dict.size dict.data.toList false l).1=0):=by
    show _=_;rw[hrun.out,List.drop_eq_nil_of_le (by omega)];rfl
   clear hm hrun hl hs;go_wp2_with fail
   go_ret
   exact⟨by rw[HX.out];rfl,G⟩
theorem Cn(dict:ByteArray)(ad:Option Addr)(cap:Nat)(l:List Tk.T)(w:World)(hl:cJ w ad l)(hs:bu l) :
 CB 180 #[.string dict,.slice ad l.length cap] w (.int .i64 (Zw dict l)):=by
 unfold Zw;by_cases hd:256<dict.size
 ·rw[ax hd];exact Jf dict ad _ cap w hd
 ·rw[ab hd];rcases hl with rfl|⟨b,off,rfl,hb,ht⟩
  ·exact xh dict ad cap w (by omega)
  ·exact xi dict b off cap l w (by omega) hb ht hs
theorem App.box{wr w3:World}{B:Nat}{T:TypeId}(hA:App (wr.alloc (.cells #[x,y,z] T)) w3 B v v' l')(hne:∀g,v.ownBlock=some g->g<wr.heap.size) :
 w3.cell? ⟨wr.heap.size,0,none⟩=some x/\w3.cell? ⟨wr.heap.size,1,none⟩=some y/\w3.cell? ⟨wr.heap.size,2,none⟩=some z:=by
 have h1:wr.heap.size<(wr.alloc (.cells #[x,y,z] T)).heap.size:=by simp
 have h2:some wr.heap.size≠v.ownBlock:=λe=>Nat.lt_irrefl _ (hne _ e.symm)
 refine⟨(hA.cell h1 h2).trans ?_,(hA.cell h1 h2).trans ?_,(hA.cell h1 h2).trans ?_⟩<;>(rw[World.cell?_alloc_mark];rfl)
theorem Jg(dict:ByteArray)(ad:Option Addr)(cap:Nat)(l:List Tk.T)(w:World)(hl:cJ w ad l)(hs:bu l)(e0:Int)(he:Zw dict l=e0)(hne:(e0 != 0)=true) :
 CB 217 #[.string dict,.slice ad l.length cap] w (.tuple #[.string ⟨#[]⟩,.int .i64 e0]):=by
 have hc:=λw hl=>Cn dict ad cap l w hl hs
 rw[he]at hc;clear he;go_enter func217,ntmps217
 go_wp2_with fail
 refine mo (hc _ hl) λw1 G=>?_
 clear hc;go_wp2_with fail
 go_ret2
 exact⟨rfl,G⟩
theorem ja(dict:ByteArray)(b off cap:Nat)(l:List Tk.T)(w:World)(hb:b<w.heap.size)(hl:jE w b off l)(hs:bu l)(hd:dict.size<=256)(s1:List UInt8)(hr:VK dict.size dict.data.toList false l=(0,s1)) :
 CB 217 #[.string dict,.slice (some ⟨b,off,none⟩) l.length cap] w (.tuple #[.string ⟨(s1.drop dict.size).toArray⟩,.int .i64 0]):=by
 have hc:=xi dict b off cap l w hd hb hl hs;rw[hr]at hc;have hd':(dict.size:Int)<=256:=by omega
 have hn':(l.length:Int)<=140737488355328:=by have:=hs.1;omega
 go_enter func217,ntmps217
 go_wp2_with fail
 refine mo hc λw1 G=>?_
 clear hc;obtain⟨v,w2,hcv,ho,G2,hv,bd⟩:=aM.of_string w1 dict (by omega) w.heap.size G.size;obtain⟨g,cp,rfl,hg1,hg2,hg3,hg4,_⟩:=ho.form hv;have G3:=ag G G2;have Hr:=Za hr;clear hr;go_wp2_with fail
 clear hcv hv bd
 go_loopw [7,20] (λx i wr=>∃(k g cp:Nat) (s:List UInt8) (p:Bool),k<=l.length/\i=.int .i64 k/\x=.slice (some ⟨g,0,none⟩) s.length cp/\aM wr w.heap.size (.slice (some ⟨g,0,none⟩) s.length cp) s ∧
  Hid (VK dict.size s p (l.drop k)=(0,s1))/\dict.size<=s.length/\s.length<=dict.size+512/\ae w wr)
  (λ_ i _=>l.length-(intOf i).toNat)
 case atStart =>
  exact⟨0,g,cp,dict.data.toList,false,by omega,rfl,by simp,by simpa using ho,Hr,by simp,by simp,G3⟩
 case round =>
  clear ho hg1 hg2 hg3 hg4 G G2 G3;obtain⟨k,g',cp',s,p,hk,rfl,rfl,ho,hrun,hs1,hs2,G⟩:=hrel;by_cases hlt:k<l.length
  ·have hdrop:=List.drop_eq_getElem_cons hlt;obtain⟨c0,c1,c2⟩:=hl k hlt;rw[<-G.cell (by exact hb)]at c0 c1 c2;rw[hdrop]at hrun;clear hdrop hl hs;generalize l[k]=t at*
   have he:VQ dict.size s p t=0:=by
    by_cases h:VQ dict.size s p t=0
    ·exact h
    ·have:=hrun.out;rw[iC h]at this;simp only[Prod.mk.injEq]at this;exact absurd this.1 h
   have HR:Hid (VK dict.size (Wh s t) (decide (t.lit.size≠0)) (l.drop (k+1))=(0,s1)):=by
    have:=hrun.out;rw[Xm he]at this;exact this
   have hmk:=X8 he;have hgs:=G.size;have HO:=Za ho;clear ho he hrun;go_wp2_with (at_builtin;refine da _ rfl _ _ rfl w.heap.size (.slice (some ⟨g',0,none⟩) s.length cp') s rfl (HO.out.alloc _) t.lit rfl (by omega) (ZR _ hgs) ?_;intro v1 w3 hA;obtain⟨k0,k1,k2⟩:=hA.box (λg hg=>(HO.out.lt g hg).2))
   obtain⟨wo,rfl⟩:∃wo:World,wo=wr:=⟨_,rfl⟩
   have hown:=hA.own;have hnn:=hA.some_ (by simp);obtain⟨g1,xj,rfl,hh1,hh2,hh3,hh4,_⟩:=hown.form hnn;have hat:=hA.at_ g1 rfl;have hgo:=HO.out.lt g' rfl
   have hne1:g1≠wo.heap.size:=by
    rcases hat with h|h
    ·simp[Value.ownBlock]at h;omega
    ·simp at h;omega
   have G1:=(G.alloc hgs _).trans hA.below
   have hsz1:wo.heap.size<w3.heap.size:=by
    have:=hA.below.size;simp at this;omega
   have hlen0:(s++t.lit.data.toList).length=s.length+t.lit.size:=by simp
   have HK:Hid (Wh s t=Xn t.far.toNat t.len.toNat (s++t.lit.data.toList)):=by
    show _=_;unfold Wh;by_cases h0:t.lit.size=0
    ·have:t.lit.data.toList=[]:=List.eq_nil_of_length_eq_zero (by simpa using h0);rw[ab (by omega),this,List.append_nil]
    ·rw[ax h0,(hmk.2.2.2.1 h0).2];rfl
   have eO:=hmk.1;have xk:=hmk.2.1;have hl00:=hmk.2.1;have hmk5:=hmk.2.2.2.2
   have HF:Hid (0<t.len->1<=t.far/\t.far<=s.length/\t.lit.size=0/\t.len<=64):=by
    intro hp;by_cases h0:t.lit.size=0
    ·have:=hmk.2.2.1 h0;omega
    ·have:=hmk.2.2.2.1 h0;omega
   clear hmk hA hnn hat k0 c0 c1 c2;generalize hS:s++t.lit.data.toList=S at*;clear hS
   have xl:t.len<=64\/t.len<=0:=by
    by_cases hp:0<t.len
    ·left;exact(HF.out hp).2.2.2
    ·right;omega
   have Jh:t.len<=64:=by omega
   have uu:=Za hlen0;have mg:=Za eO;clear xl xk hlen0 eO
   go_loopw [7,30] (λx i wi=>∃(j g cp:Nat),(j:Int)<=t.len/\i=.int .i64 j/\x=.slice (some ⟨g,0,none⟩) (Xn t.far.toNat j S).length cp/\aM wi w.heap.size (.slice (some ⟨g,0,none⟩) (Xn t.far.toNat j S).length cp) (Xn t.far.toNat j S) ∧
    g≠wo.heap.size/\wo.heap.size<wi.heap.size/\wi.cell? ⟨wo.heap.size,1,none⟩=some (.int .i64 t.far)/\ae w wi)
    (λ_ i _=>64-(intOf i).toNat)
   case atStart=>exact⟨0,g1,xj,by omega,rfl,rfl,hown,hne1,hsz1,k1,G1⟩
   case round =>
    clear hown hne1 hsz1 k1 G1 hh1 hh2 hh3 hh4 k2 G hgo;obtain⟨j,g2,cp2,hj,rfl,rfl,hown,hne2,hsz2,k1,G⟩:=hrel;by_cases hjl:(j:Int)<t.len
    ·obtain⟨f1,f2,f3,f4⟩:=HF.out (by omega);have hlen0:=uu.out;obtain⟨F,hF⟩:=Int.eq_ofNat_of_zero_le (a:=t.far) (by omega);have hcl:=Cb t.far.toNat j S;have hcs:=YX t.far.toNat j S;generalize hfn:t.far.toNat=fn at*;generalize Xn fn j S=X at*;obtain⟨ga,ca,hq,_,q2,_,_,q5⟩:=hown.form (by simp);simp only[Value.slice.injEq,Option.some.injEq,Addr.mk.injEq,and_true,true_and]at hq;obtain⟨rfl,rfl⟩:=hq;have Ji:fn=F:=by omega
     subst Ji;rw[hF]at k1;have kB:=Za hF;have Jj:fn<=X.length:=by omega
     have hix:X.length-fn<X.length:=by omega
     obtain⟨bt,hbt⟩:∃bt,X[X.length-fn]?=some bt:=⟨_,List.getElem?_eq_getElem hix⟩
     have hld:=q5 _ _ hbt
     have Co:Hid (Xn fn (j+1) S=X++[bt]):=by
      show _=_;rw[hcs];simp[List.getD,hbt]
     have kC:=Za hown;have hi1:(0:Int)<=(X.length:Int)-(fn:Int):=by omega
     have hi2:(X.length:Int)-(fn:Int)<(X.length:Int):=by omega
     have xm:(X.length:Int)<=1000:=by omega
     have iK:=G.size;have UE:=Za hcl;clear hown hcs q5 hbt hfn HF hF hcl f3 f1 f2 f4 hlen0;go_wp2_with (at_builtin;refine Jb _ rfl _ _ rfl w.heap.size (.slice (some ⟨g2,0,none⟩) X.length cp2) X rfl (kC.out.alloc _) bt wr.heap.size 1 rfl (by rw[World.cell?_alloc_mark];rfl) (by omega) (ZR _ iK) ?_;intro v4 w4 oA)
     go_roundw
     case rel =>
      obtain⟨g3,cp3,rfl,r1,r2,r3,r4,_⟩:=oA.own.form (oA.some_ (by simp));have hat:=oA.at_ g3 rfl;have xn:=oA.below.size;simp at xn;refine⟨j+1,g3,cp3,by omega,by go_num,by rw[Co.out],by rw[Co.out];exact oA.own,?_,by omega,?_,(G.alloc iK _).trans oA.below⟩
      ·rcases hat with h|h
       ·have:g2=g3:=by simpa[Value.ownBlock]using h
        omega
       ·simp at h;omega
      ·rw[oA.cell (by simp;omega) (by simp[Value.ownBlock];omega),kB.out,<-k1];exact(bR _ _ |>.alloc (nl _) _).cell (by exact hsz2)
     case measure=>simp[intOf];omega
    ·have hjt:j=t.len.toNat:=by omega
     subst hjt;have pM:=HK.out;rw[<-pM]at hown;clear pM k1;go_wp2_with fail
     go_roundw
     case rel =>
      have h9:=mg.out;refine⟨k+1,g2,cp2,Wh s t,_,by omega,by go_num,by rw[HK.out],hown,HR,by omega,by omega,G⟩
     case measure=>simp[intOf];omega
  ·have hs1':s=s1:=by
    have:=hrun.out;rw[List.drop_eq_nil_of_le (by omega)]at this;simpa[VK]using this
   subst hs1';obtain⟨ga,ca,hq,_,q2,q3,q4,q5⟩:=ho.form (by simp);simp only[Value.slice.injEq,Option.some.injEq,Addr.mk.injEq,and_true,true_and]at hq;obtain⟨rfl,rfl⟩:=hq;have hcv:=λc=>aM.conv q5 dict.size c
   have hi1:(dict.size:Int)<=(s.length:Int):=by omega
   have hi2:(s.length:Int)<=(cp':Int):=by omega
   have hi3:(s.length:Int)<=1000:=by omega
   have hi4:(cp':Int)<=9223372036854775807:=by unfold maxLen at q4;omega
   have hd1:=dF (by omega:¬((k:Int)<(l.length:Int)));have hd2:=dF (by omega:¬(k<l.length));by_cases hcd:cp'=dict.size
   ·have hsl:s.length=dict.size:=by omega
    have hcv0:∀c,(convert 29 9 (.slice (some ⟨g',0,none⟩) 0 c)).run prog wr=.ok (.string ⟨#[]⟩) wr:=λc =>
     aM.conv (w:=wr) (l:=[]) (g:=g') (λj b hj=>by simp at hj) 0 c
    have HS:Hid (s.drop dict.size=[]):=List.drop_eq_nil_of_le (by omega);subst hcd;clear hrun q5 hl hs ho hcv;go_wp2_with fail
    go_ret2
    exact⟨by rw[HS.out];rfl,G⟩
   ·clear hrun q5 hl hs ho;go_wp2_with fail
    go_ret2
    exact⟨rfl,G⟩
theorem Jk(dict:ByteArray)(ad:Option Addr)(cap:Nat)(w:World)(hd:dict.size<=256) :
 CB 217 #[.string dict,.slice ad 0 cap] w (.tuple #[.string ⟨#[]⟩,.int .i64 0]):=by
 have hc:=xh dict ad cap w hd;have hd':(dict.size:Int)<=256:=by omega
 go_enter func217,ntmps217
 go_wp2_with fail
 refine mo hc λw1 G=>?_
 clear hc;obtain⟨v,w2,hcv,ho,G2,hv,bd⟩:=aM.of_string w1 dict (by omega) w.heap.size G.size;obtain⟨g,cp,rfl,hg1,hg2,hg3,hg4,q5⟩:=ho.form hv;have G3:=ag G G2;have hlen:dict.data.toList.length=dict.size:=by simp
 rw[hlen]at hcv hg3;have hcv1:=λc=>aM.conv q5 dict.size c
 rw[hlen,Nat.sub_self,List.drop_eq_nil_of_le (by omega)]at hcv1
 have hcv0:∀c,(convert 29 9 (.slice (some ⟨g,0,none⟩) 0 c)).run prog w2=.ok (.string ⟨#[]⟩) w2:=λc =>
  aM.conv (w:=w2) (l:=[]) (g:=g) (λj b hj=>by simp at hj) 0 c
 have hi2:(dict.size:Int)<=(cp:Int):=by omega
 have hi4:(cp:Int)<=9223372036854775807:=by unfold maxLen at hg4;omega
 clear q5 hv bd ho hlen;by_cases hcd:cp=dict.size
 ·subst hcd;go_wp2_with fail
  refine wp_loop_rounds 1 ?_;rw[rounds_succ];go_wp2_with fail
  go_ret2
  exact⟨rfl,G3⟩
 ·go_wp2_with fail
  refine wp_loop_rounds 1 ?_;rw[rounds_succ];go_wp2_with fail
  go_ret2
  exact⟨rfl,G3⟩
def gZ(dict:ByteArray)(l:List Tk.T):ByteArray:=if Zw dict l≠0 then⟨#[]⟩ else⟨((VK dict.size dict.data.toList false l).2.drop dict.size).toArray⟩
theorem Jl(dict:ByteArray)(ad:Option Addr)(cap:Nat)(l:List Tk.T)(w:World)(hl:cJ w ad l)(hs:bu l) :
 CB 217 #[.string dict,.slice ad l.length cap] w (.tuple #[.string (gZ dict l),.int .i64 (Zw dict l)]):=by
 unfold gZ;by_cases h0:Zw dict l=0
 ·rw[ab (by simpa using h0),h0]
  have hd:dict.size<=256:=by
   unfold Zw at h0;by_cases h:256<dict.size
   ·rw[ax h]at h0;omega
   ·omega
  have h1:(VK dict.size dict.data.toList false l).1=0:=by
   unfold Zw at h0
   rwa [ab (by omega)]at h0
  rcases hl with rfl|⟨b,off,rfl,hb,ht⟩
  ·have e:(VK dict.size dict.data.toList false []).2.drop dict.size=[]:=List.drop_eq_nil_of_le (by simp[VK]);rw[e];exact Jk dict ad cap w hd
  ·exact ja dict b off cap l w hb ht hs hd _ (by rw[<-h1])
 ·rw[ax h0];exact Jg dict ad cap l w hl hs _ rfl (by simpa using h0)
theorem lG(n a b:Int)(w:World)(h1:a<=n)(h2:n<=b) :
 Calls prog 79 #[.int .i64 n,.int .i64 a,.int .i64 b] w λe w'=>e=.returned (.bool true)/\w'=w:=by
 have d1:decide (a<=n)=true:=by simpa using h1
 have d2:decide (n<=b)=true:=by simpa using h2
 go_enter func79,ntmps79
 go_wp2_with fail
 go_ret
 exact⟨rfl,rfl⟩
theorem re(n a b:Int)(w:World)(h:¬(a<=n/\n<=b)) :
 Calls prog 79 #[.int .i64 n,.int .i64 a,.int .i64 b] w λe w'=>e=.returned (.bool false)/\w'=w:=by
 by_cases h1:a<=n
 ·have d1:decide (a<=n)=true:=by simpa using h1
  have d2:=dF (by omega:¬(n<=b));clear h;go_enter func79,ntmps79
  go_wp2_with fail
  go_ret
  exact⟨rfl,rfl⟩
 ·have d1:=dF (by omega:¬(a<=n));clear h;go_enter func79,ntmps79
  go_wp2_with fail
  go_ret
  exact⟨rfl,rfl⟩
def pN(l:List Tk.T)(k:Nat):Bool:=decide (0<k)&&decide ((l[k-1]?.map (λt=>t.lit.size)).getD 0≠0)
theorem Jm(dict:ByteArray)(ad:Option Addr)(n cap:Nat)(w:World)(hd:256<dict.size) :
 CB 167 #[.string dict,.slice ad n cap] w (.tuple #[.string ⟨#[]⟩,.int .i64 2]):=by
 have h:=al (by omega:(256:Int)<(dict.size:Int));have h':(256:Int)<(dict.size:Int):=by omega
 go_enter func167,ntmps167
 go_wp2_with fail
 go_ret2
 exact⟨rfl,bR _ _⟩
theorem Jn(dict:ByteArray)(ad:Option Addr)(cap:Nat)(w:World)(hd:dict.size<=256) :
 CB 167 #[.string dict,.slice ad 0 cap] w (.tuple #[.string ⟨#[]⟩,.int .i64 0]):=by
 have h:=dF (by omega:¬((256:Int)<(dict.size:Int)));have h':(dict.size:Int)<=256:=by omega
 have he:dict.extract dict.size dict.size=⟨#[]⟩:=by
  apply ZN;rw[Lib.extract_data];simp
 go_enter func167,ntmps167
 go_wp2_with fail
 refine wp_loop_rounds 1 ?_;rw[rounds_succ];go_wp2_with fail
 go_ret2
 exact⟨rfl,bR _ _⟩
theorem Zk(S:ByteArray):S.data.toList.length=S.size:=by simp
set_option maxRecDepth 4000 in
theorem Jo(dict:ByteArray)(b off cap:Nat)(l:List Tk.T)(w:World)(hd:dict.size<=256)(hb:b<w.heap.size)(hl:jE w b off l)(hs:bu l) :
 CB 167 #[.string dict,.slice (some ⟨b,off,none⟩) l.length cap] w (.tuple #[.string (if(VK dict.size dict.data.toList false l).1≠0 then⟨#[]⟩ else⟨((VK dict.size dict.data.toList false l).2.drop dict.size).toArray⟩),.int .i64 (VK dict.size dict.data.toList false l).1]):=by
 have h:=dF (by omega:¬((256:Int)<(dict.size:Int)));have h':(dict.size:Int)<=256:=by omega
 have hn:=hs.1;have hn':(l.length:Int)<=140737488355328:=by omega
 generalize hR:VK dict.size dict.data.toList false l=R at*
 obtain⟨E,hE⟩:∃E:Int,R.1=E:=⟨_,rfl⟩
 obtain⟨Z,hZ⟩:∃Z:ByteArray,(if R.1≠0 then(⟨#[]⟩:ByteArray) else⟨(R.2.drop dict.size).toArray⟩)=Z:=⟨_,rfl⟩
 rw[hZ,hE]
 have HZ0:Hid (∀e x,R=(e,x)->e≠0->E=e/\Z=⟨#[]⟩):=by
  intro e x he hne;subst he;exact⟨hE.symm,by rw[<-hZ,ax hne]⟩
 have HZ1:Hid (∀x,R=(0,x)->E=0/\Z=⟨(x.drop dict.size).toArray⟩):=by
  intro x he;subst he;exact⟨hE.symm,by rw[<-hZ,ab (by simp)]⟩
 have HR:=Za hR;clear hR hE hZ;go_enter func167,ntmps167
 go_wp2_with fail
 go_loopw [6,7] (λx i wr=>∃(k:Nat) (S:ByteArray) (p:Bool),k<=l.length/\i=.int .i64 k/\x=.string S/\Hid (VK dict.size S.data.toList p (l.drop k)=R)/\Hid (p=pN l k) ∧
  dict.size<=S.size/\S.size<=dict.size+512/\ae w wr)
  (λ_ i _=>l.length-(intOf i).toNat)
 case atStart=>exact⟨0,dict,false,by omega,rfl,rfl,HR,rfl,by omega,by omega,bR _ _⟩
 case round =>
  obtain⟨k,S,p,hk,rfl,rfl,hrun,hp,hs1,hs2,G⟩:=hrel;have hS:(S.size:Int)<=1000:=by omega
  by_cases hlt:k<l.length
  ·have hdrop:=List.drop_eq_getElem_cons hlt;obtain⟨c0,c1,c2⟩:=hl k hlt;have hlit:=hs.2 l[k] (gM hlt);rw[<-G.cell (by exact hb)]at c0 c1 c2;rw[hdrop]at hrun
   have HP:Hid (0<k->wr.cell? ⟨b,off+(k-1)*3,none⟩=some (.string (l[k-1]'(by omega)).lit)):=by
    intro hk0;rw[G.cell (by exact hb)];exact(hl (k-1) (by omega)).1
   have HQ:Hid (pN l (k+1)=decide (l[k].lit.size≠0)):=by
    show _=_;simp[pN,List.getElem?_eq_getElem hlt]
   generalize l[k]=t at*;have hgs:=G.size;have hpl:k=0\/0<k:=by omega
   clear hdrop hl hs;by_cases h0:t.lit.size≠0
   ·have hE0:=ky h0;by_cases hf:t.far≠0
    ·have hf':(t.far != 0)=true:=by simp[hf]
     have he:VQ dict.size S.data.toList p t=1:=by
      unfold VQ;rw[ax h0,ax (Or.inl hf)]
     have HX:=Za (HZ0.out _ _ (hrun.out.symm.trans (iC (by rw[he];omega))) (by rw[he];omega) |>.imp (λh=>h.trans he) id);go_wp2_with fail
     go_ret2
     exact⟨by rw[HX.out.1,HX.out.2];rfl,G.alloc hgs _⟩
    ·have hf':(t.far != 0)=false:=by simpa using hf
     by_cases hn:t.len≠0
     ·have hn':(t.len != 0)=true:=by simp[hn]
      have he:VQ dict.size S.data.toList p t=1:=by
       unfold VQ;rw[ax h0,ax (Or.inr (Or.inl hn))]
      have HX:=Za (HZ0.out _ _ (hrun.out.symm.trans (iC (by rw[he];omega))) (by rw[he];omega) |>.imp (λh=>h.trans he) id);go_wp2_with fail
      go_ret2
      exact⟨by rw[HX.out.1,HX.out.2];rfl,G.alloc hgs _⟩
     ·have hn':(t.len != 0)=false:=by simpa using hn
      cases hpt:p with
      |true =>
       have hk0:0<k:=by
        have:=hp.out;rw[hpt]at this;rcases hpl with h|h
        ·subst h;simp[pN]at this
        ·exact h
       have c3:=HP.out hk0
       have hq:(l[k-1]'(by omega)).lit.size≠0:=by
        have:=hp.out;rw[hpt]at this;simp[pN,List.getElem?_eq_getElem (show k-1<l.length by omega)]at this;exact λe=>this.2 (by simpa using e)
       have hqe:=ky hq;generalize (l[k-1]'(by omega)).lit=q at*;have hbw:=nT hb G.size;have c4:=λo=>(((bR wr.heap.size wr).alloc (nl _) o).cell (by exact hbw)).trans c3
       have hk0':=al (by omega:(0:Int)<(k:Int));have nB:=al (by omega:0<k);have hi1:(0:Int)<=(k:Int)-1:=by omega
       have hi2:(k:Int)-1<(l.length:Int):=by omega
       have he:VQ dict.size S.data.toList p t=1:=by
        unfold VQ;rw[ax h0,ax (Or.inr (Or.inr hpt))]
       clear hpl HQ;have HX:=Za (HZ0.out _ _ (hrun.out.symm.trans (iC (by rw[he];omega))) (by rw[he];omega) |>.imp (λh=>h.trans he) id);go_wp2_with fail
       go_ret2
       exact⟨by rw[HX.out.1,HX.out.2];rfl,G.alloc hgs _⟩
      |false =>
       rcases hpl with hk0|hk0
       ·have hk0':=dF (by omega:¬((0:Int)<(k:Int)));have nB:=dF (by omega:¬(0<k));clear hk0;by_cases hbig:512<(S.size:Int)-dict.size+t.lit.size
        ·have hb':=al (by omega:512-((S.size:Int)-(dict.size:Int))<(t.lit.size:Int))
         have he:VQ dict.size S.data.toList p t=2:=by
          unfold VQ;rw[ax h0,ab (by simp[hf,hn,hpt]),ax (by rw[Zk];exact hbig)]
         clear HQ hbig;have HX:=Za (HZ0.out _ _ (hrun.out.symm.trans (iC (by rw[he];omega))) (by rw[he];omega) |>.imp (λh=>h.trans he) id);go_wp2_with fail
         go_ret2
         exact⟨by rw[HX.out.1,HX.out.2];rfl,G.alloc hgs _⟩
        ·have hb':=dF (by omega:¬(512-((S.size:Int)-(dict.size:Int))<(t.lit.size:Int)));have hb2:(t.lit.size:Int)<=512:=by omega
         have cF:Hid ((S.size:Int)-dict.size+t.lit.size<=512):=by show _<=_;omega
         have he:VQ dict.size S.data.toList p t=0:=by
          unfold VQ;rw[ax h0,ab (by simp[hf,hn,hpt]),ab (by rw[Zk];exact hbig)]
         have HX:Hid (VK dict.size (S++t.lit).data.toList (decide (t.lit.size≠0)) (l.drop (k+1))=R):=by
          show _=_;rw[<-hrun.out,Xm he];unfold Wh;rw[ax h0,Xo]
         clear hbig he;go_wp2_with fail
         go_roundw
         case rel=>exact⟨k+1,S++t.lit,_,by omega,by go_num,rfl,HX,HQ.out.symm,by rw[Xc];omega,by have:=cF.out;rw[Xc];omega,G.alloc hgs _⟩
         case measure=>simp[intOf];omega
       ·have c3:=HP.out hk0
        have hq:(l[k-1]'(by omega)).lit.size=0:=by
         have:=hp.out;rw[hpt]at this;simp[pN,List.getElem?_eq_getElem (show k-1<l.length by omega),hk0]at this;simpa using this
        have hqe:=kx hq;generalize (l[k-1]'(by omega)).lit=q at*;have hbw:=nT hb G.size;have c4:=λo=>(((bR wr.heap.size wr).alloc (nl _) o).cell (by exact hbw)).trans c3
        have hk0':=al (by omega:(0:Int)<(k:Int));have nB:=al (by omega:0<k);have hi1:(0:Int)<=(k:Int)-1:=by omega
        have hi2:(k:Int)-1<(l.length:Int):=by omega
        by_cases hbig:512<(S.size:Int)-dict.size+t.lit.size
        ·have hb':=al (by omega:512-((S.size:Int)-(dict.size:Int))<(t.lit.size:Int))
         have he:VQ dict.size S.data.toList p t=2:=by
          unfold VQ;rw[ax h0,ab (by simp[hf,hn,hpt]),ax (by rw[Zk];exact hbig)]
         clear HQ hbig;have HX:=Za (HZ0.out _ _ (hrun.out.symm.trans (iC (by rw[he];omega))) (by rw[he];omega) |>.imp (λh=>h.trans he) id);go_wp2_with fail
         go_ret2
         exact⟨by rw[HX.out.1,HX.out.2];rfl,G.alloc hgs _⟩
        ·have hb':=dF (by omega:¬(512-((S.size:Int)-(dict.size:Int))<(t.lit.size:Int)));have hb2:(t.lit.size:Int)<=512:=by omega
         have cF:Hid ((S.size:Int)-dict.size+t.lit.size<=512):=by show _<=_;omega
         have he:VQ dict.size S.data.toList p t=0:=by
          unfold VQ;rw[ax h0,ab (by simp[hf,hn,hpt]),ab (by rw[Zk];exact hbig)]
         have HX:Hid (VK dict.size (S++t.lit).data.toList (decide (t.lit.size≠0)) (l.drop (k+1))=R):=by
          show _=_;rw[<-hrun.out,Xm he];unfold Wh;rw[ax h0,Xo]
         clear hbig he;go_wp2_with fail
         go_roundw
         case rel=>exact⟨k+1,S++t.lit,_,by omega,by go_num,rfl,HX,HQ.out.symm,by rw[Xc];omega,by have:=cF.out;rw[Xc];omega,G.alloc hgs _⟩
         case measure=>simp[intOf];omega
   ·have h00:t.lit.size=0:=by omega
    have hE0:=kx h00;have HL:=Za (Zk S);clear HP hp hpl;by_cases ha:3<=t.len/\t.len<=64
    ·obtain⟨ha1,ha2⟩:=ha;by_cases hbf:1<=t.far/\t.far<=(S.size:Int)
     ·obtain⟨hb1,hb2⟩:=hbf;by_cases hbig:512<(S.size:Int)-dict.size+t.len
      ·have hb':=al (by omega:512-((S.size:Int)-(dict.size:Int))<t.len)
       have he:VQ dict.size S.data.toList p t=2:=by
        unfold VQ;rw[ab h0,ab (by rw[Zk];simp;omega),ax (by rw[Zk];exact hbig)]
       clear HQ hbig;have HX:=Za (HZ0.out _ _ (hrun.out.symm.trans (iC (by rw[he];omega))) (by rw[he];omega) |>.imp (λh=>h.trans he) id);go_wp2_with fail
       refine mo (lG t.len 3 64 _ ha1 ha2) ?_;rintro w9 rfl;go_wp2_with fail
       refine mo (lG t.far 1 S.size _ hb1 hb2) ?_;rintro w9 rfl;go_wp2_with fail
       go_ret2
       exact⟨by rw[HX.out.1,HX.out.2];rfl,G.alloc hgs _⟩
      ·have hb':=dF (by omega:¬(512-((S.size:Int)-(dict.size:Int))<t.len))
       have he:VQ dict.size S.data.toList p t=0:=by
        unfold VQ;rw[ab h0,ab (by rw[Zk];simp;omega),ab (by rw[Zk];exact hbig)]
       obtain⟨F,hF⟩:=Int.eq_ofNat_of_zero_le (a:=t.far) (by omega)
       have HX:Hid (VK dict.size (Xn F t.len.toNat S.data.toList) (decide (t.lit.size≠0)) (l.drop (k+1))=R):=by
        show _=_;rw[<-hrun.out,Xm he];unfold Wh;rw[ab h0,hF,Int.toNat_natCast]
       have cF:Hid ((S.size:Int)-dict.size+t.len<=512):=by show _<=_;omega
       have hc1:=lG t.len 3 64;have hc2:=lG t.far 1 S.size;rw[hF]at c1 hb1 hb2 hc2;clear hbig he hrun hF;go_wp2_with fail
       refine mo (hc1 _ ha1 ha2) ?_;rintro w9 rfl;go_wp2_with fail
       refine mo (hc2 _ hb1 hb2) ?_;rintro w9 rfl;clear hc1 hc2;go_wp2_with fail
       have hl0:0<=t.len:=by omega
       go_loop [6,9] (λx i=>∃(j:Nat) (X:ByteArray),(j:Int)<=t.len/\i=.int .i64 j/\x=.string X/\Hid (X.data.toList=Xn F j S.data.toList)/\Hid (X.size=S.size+j)/\S.size<=X.size/\X.size<=S.size+64) (λ_ i=>64-(intOf i).toNat)
       case atStart=>exact⟨0,S,by omega,rfl,rfl,rfl,rfl,by omega,by omega⟩
       case round =>
        obtain⟨j,X,hj,rfl,rfl,hX,gj,hX1,hX2⟩:=hrel;have xm:(X.size:Int)<=2000:=by omega
        by_cases hjl:(j:Int)<t.len
        ·have hjd:decide ((j:Int)<t.len)=true:=by simpa using hjl
         have hi1:(0:Int)<=(X.size:Int)-(F:Int):=by omega
         have hi2:(X.size:Int)-(F:Int)<=(X.size:Int)-(F:Int)+1:=by omega
         have hi3:(X.size:Int)-(F:Int)+1<=(X.size:Int):=by omega
         have HN:Hid ((X++X.extract (X.size-F) (X.size-F+1)).data.toList=Xn F (j+1) S.data.toList):=by
          show _=_;rw[Xo,Lib.extract_data,YX,<-hX.out,Zk,show X.size-F+1-(X.size-F)=1 by omega];have hlt2:X.size-F<X.data.toList.length:=by rw[Zk];omega
          rw[List.drop_eq_getElem_cons hlt2,List.take_succ_cons,List.take_zero,List.getD_eq_getElem?_getD,List.getElem?_eq_getElem hlt2];rfl
         have xo:Hid ((X++X.extract (X.size-F) (X.size-F+1)).size=S.size+(j+1)):=by
          show _=_;rw[Xc,<-Zk (X.extract _ _),Lib.extract_data,List.length_take,List.length_drop,Zk,gj.out];omega
         go_wp2_with fail
         go_round
         case rel=>exact⟨j+1,_,by omega,by go_num,rfl,HN,xo,by rw[xo.out];omega,by rw[xo.out];omega⟩
         case measure=>simp[intOf];omega
        ·have hjd:=dF (by omega:¬((j:Int)<t.len));have hjt:j=t.len.toNat:=by omega
         go_wp2_with fail
         go_roundw
         case rel =>
          have:=cF.out;have:=gj.out;refine⟨k+1,X,_,by omega,by go_num,rfl,?_,HQ.out.symm,by omega,by omega,G.alloc hgs _⟩;rw[hX.out,hjt];exact HX
         case measure=>simp[intOf];omega
     ·have he:VQ dict.size S.data.toList p t=1:=by
       unfold VQ;rw[ab h0,ax (by rw[Zk];omega)]
      clear HQ;have HX:=Za (HZ0.out _ _ (hrun.out.symm.trans (iC (by rw[he];omega))) (by rw[he];omega) |>.imp (λh=>h.trans he) id);go_wp2_with fail
      refine mo (lG t.len 3 64 _ ha1 ha2) ?_;rintro w9 rfl;go_wp2_with fail
      refine mo (re t.far 1 S.size _ hbf) ?_;rintro w9 rfl;go_wp2_with fail
      go_ret2
      exact⟨by rw[HX.out.1,HX.out.2];rfl,G.alloc hgs _⟩
    ·have he:VQ dict.size S.data.toList p t=1:=by
      unfold VQ;rw[ab h0,ax (by rw[Zk];omega)]
     clear HQ;have HX:=Za (HZ0.out _ _ (hrun.out.symm.trans (iC (by rw[he];omega))) (by rw[he];omega) |>.imp (λh=>h.trans he) id);go_wp2_with fail
     refine mo (re t.len 3 64 _ ha) ?_;rintro w9 rfl;go_wp2_with fail
     go_ret2
     exact⟨by rw[HX.out.1,HX.out.2];rfl,G.alloc hgs _⟩
  ·have hd1:=dF (by omega:¬((k:Int)<(l.length:Int)));have hd2:=dF (by omega:¬(k<l.length))
   have HX:Hid (E=0/\Z=⟨(S.data.toList.drop dict.size).toArray⟩):=by
    refine HZ1.out _ ?_;rw[<-hrun.out,List.drop_eq_nil_of_le (by omega)];rfl
   have HE:Hid (S.extract dict.size S.size=⟨(S.data.toList.drop dict.size).toArray⟩):=by
    show _=_;apply ZN;rw[Lib.extract_data,List.take_of_length_le];rw[List.length_drop,Zk];exact nl _
   have hi1:(dict.size:Int)<=(S.size:Int):=by omega
   clear hl hs hrun hp;go_wp2_with fail
   go_ret2
   exact⟨by rw[HX.out.1,HX.out.2,<-HE.out];rfl,G⟩
theorem Cp(dict:ByteArray)(ad:Option Addr)(cap:Nat)(l:List Tk.T)(w:World)(hl:cJ w ad l)(hs:bu l) :
 CB 167 #[.string dict,.slice ad l.length cap] w (.tuple #[.string (gZ dict l),.int .i64 (Zw dict l)]):=by
 unfold gZ Zw;by_cases hd:256<dict.size
 ·rw[ax hd];simp only[ne_eq,Int.reduceEq,not_false_eq_true,if_true];exact Jm dict ad _ cap w hd
 ·rw[ab hd];rcases hl with rfl|⟨b,off,rfl,hb,ht⟩
  ·have e:(VK dict.size dict.data.toList false [])=(0,dict.data.toList):=rfl;rw[e,ab (by simp),List.drop_eq_nil_of_le (by simp)];exact Jn dict ad cap w (by omega)
  ·exact Jo dict b off cap l w (by omega) hb ht hs
end Go.Proofs.YtbjbjbpgmojcbacGreatDoor
