/- A part of the proof: what it leans on. -/
import Derived.Test.YtbjbjbpgmojcbabGreatLsBook01
import Derived.OneCell
import Derived.BigRegion
import Derived.Deep.RegionHeld3
import Derived.Test.YtbjbjbpgmojcbabGreatLsBook03
import Derived.Test.YtbjbjbpgmojcbabGreatLsBook04
set_option maxRecDepth 4000
set_option maxHeartbeats 4000000
namespace Go.Proofs.YtbjbjbpgmojcbabGreat
open Go.RowKit
theorem Zcv {w:World} {g k:Nat} {c:Array Value} {t:TypeId} {fz:Nat × Nat} (h:w.heap[g]?=some (.cells c t fz)) (x:Value):(w.setCell ⟨g,k,none⟩ x).heap[g]?=some (.cells (c.setIfInBounds k x) t fz):=by
 show (w.heap.modify g _)[g]?=_;rw [Array.getElem?_modify,if_pos rfl,h];rfl
theorem ZcB {w:World} {g q k:Nat} (h:q ≠ g) (x:Value):(w.setCell ⟨q,k,none⟩ x).heap[g]?=w.heap[g]?:=by
 show (w.heap.modify q _)[g]?=_;rw [Array.getElem?_modify,if_neg h]
theorem BitsAt.laid {w:World} {gb g cap:Nat} {bs:List Bool} {b:Bool} {t:Int} (hgb:gb<w.heap.size) (hc:w.heap[gb]?=some (.cells #[.slice (some ⟨g,0,none⟩) (Cd.pk1 bs).length cap,.int .i64 (bs.length:Nat)] 200 (0,0)))
 (hg:gb+1<=g) (ho:(w.setCell ⟨g,bs.length / 8,none⟩ (.int .u8 t)).ownsRow (gb+1) 5 1 (.slice (some ⟨g,0,none⟩) (Cd.pk1 bs).length cap) (Cd.pk (bs++[b])).length (bcs (Cd.pk (bs++[b])))) :
 BitsAt (((w.setCell ⟨g,bs.length / 8,none⟩ (.int .u8 t)).drew).setCell ⟨gb,1,none⟩ (.int .i64 ((bs.length:Nat)+1:Int))) gb (bs++[b]):=by
 refine ⟨by simpa [World.setCell] using hgb,.slice (some ⟨g,0,none⟩) (Cd.pk1 bs).length cap,?_,?_⟩
 ·have h1:((w.setCell ⟨g,bs.length / 8,none⟩ (.int .u8 t)).drew).heap[gb]?=some (.cells #[.slice (some ⟨g,0,none⟩) (Cd.pk1 bs).length cap,.int .i64 (bs.length:Nat)] 200 (0,0)):=by
   show (w.setCell ⟨g,bs.length / 8,none⟩ (.int .u8 t)).heap[gb]?=_;rw [ZcB (by omega)];exact hc
  have h2:=Zcv (k:=1) h1 (.int .i64 ((bs.length:Nat)+1:Int));rw [h2];simp
 ·have ho2:((w.setCell ⟨g,bs.length / 8,none⟩ (.int .u8 t)).drew).ownsRow (gb+1) 5 1 (.slice (some ⟨g,0,none⟩) (Cd.pk1 bs).length cap) (Cd.pk (bs++[b])).length (bcs (Cd.pk (bs++[b]))):=ho;exact ownsRow_setCell_below ho2 (a:=⟨gb,1,none⟩) (by show gb<gb+1;omega) _
theorem ZgQ {w:World} {gb:Nat} {bs:List Bool} {v:Value} (hgb:gb<w.heap.size) (hc:w.heap[gb]?=some (.cells #[v,.int .i64 (bs.length:Nat)] 200 (0,0)))
 (ho:w.ownsRow (gb+1) 5 1 v (Cd.pk1 bs).length (bcs (Cd.pk1 bs))) (b:Bool) :
 ∃ (g cap:Nat) (t x:Int),v=.slice (some ⟨g,0,none⟩) (bs.length / 8+1) cap/\g ≠ gb/\w.cell? ⟨gb,0,none⟩=some (.slice (some ⟨g,0,none⟩) (bs.length / 8+1) cap)/\w.cell? ⟨gb,1,none⟩=some (.int .i64 (bs.length:Nat)) ∧
  w.cell? ⟨g,bs.length / 8,none⟩=some (.int .u8 x)/\w.frozen? ⟨g,bs.length / 8,none⟩=false/\w.frozen? ⟨gb,1,none⟩=false/\0<=x/\x<=255 ∧
  Hid (bits BinOp.or IntKind.u8 x ((Cd.bv b:Nat)*2 ^ (7 - bs.length % 8) % 256)=t) ∧
  Hid (BitsAt (((w.setCell ⟨g,bs.length / 8,none⟩ (.int .u8 t)).drew).setCell ⟨gb,1,none⟩ (.int .i64 ((bs.length:Nat)+1:Int))) gb (bs++[b])) ∧
  Hid (∀ a:World,Below gb a w->Below gb a (((w.setCell ⟨g,bs.length / 8,none⟩ (.int .u8 t)).drew).setCell ⟨gb,1,none⟩ (.int .i64 ((bs.length:Nat)+1:Int)))):=by
 have hl:=Cd.Zja bs;obtain ⟨g,cap,rfl,hg,hgl,hcell,hfz,hset⟩:=ZjU ho (by intro e;rw [e] at hl;simp at hl);have hn:bs.length=8*(bs.length / 8)+bs.length % 8:=by omega
 have hb:=Cd.Zib bs b (bs.length / 8) (bs.length % 8) (by omega) hn;have hlt:=Cd.ZqW bs (bs.length / 8);obtain ⟨hf1,hf2⟩:=ZnB (b:=b) (show bs.length % 8<8 by omega) hlt hb.2;have hx:=hcell (bs.length / 8) _ (Cd.Zrb bs (by omega));have e8:∀ n,n<256->(UInt8.ofNat n).toNat=n:=fun n h=>by simp;omega
 rw [e8 _ hlt] at hx;have hs:=hset (bs.length / 8) (UInt8.ofNat (Cd.byt bs (bs.length / 8)+Cd.bv b*2 ^ (7 - bs.length % 8))) (by omega);rw [<-Cd.ZtE bs b,e8 _ hf2] at hs;have hc':w.heap[gb]?=some (.cells #[.slice (some ⟨g,0,none⟩) (Cd.pk1 bs).length cap,.int .i64 (bs.length:Nat)] 200 (0,0)):=hc;refine ⟨g,cap,_,_,by rw [hl],by omega,?_,?_,hx,hfz _,by simp [World.frozen?,hc],by omega,by omega,hf1,BitsAt.laid hgb hc' hg hs,fun a ha=>?_⟩
 ·rw [cell_of_row w gb 0 _ _ _ hc,<-hl];rfl
 ·rw [cell_of_row w gb 1 _ _ _ hc];rfl
 ·exact ((ha.setCell (p:=⟨g,bs.length / 8,none⟩) (by show gb<=g;omega) _).drew).setCell (p:=⟨gb,1,none⟩) (nl _) _
theorem ZoP {a wr w1:World} {gb:Nat} {b2:List Bool} {v v':Value} {o:Obj} (hgb:gb<wr.heap.size) (hc:wr.heap[gb]?=some (.cells #[v,.int .i64 (b2.length:Nat)] 200 (0,0)))
 (ho:wr.ownsRow (gb+1) 5 1 v (Cd.pk b2).length (bcs (Cd.pk b2))) (hr:b2.length % 8=0) (hown:w1.ownsRow (gb+1) 5 1 v' ((Cd.pk b2).length+1) (bcs (Cd.pk b2)++[.int .u8 0])) (hg:(wr.alloc o).grownBy w1 v.ownBlock)
 (G:Below gb a wr) (b:Bool) :
 w1.cell? ⟨gb,0,none⟩=some v/\w1.frozen? ⟨gb,0,none⟩=false/\Hid (Below gb a (w1.setCell ⟨gb,0,none⟩ v'))/\∃ (g cap:Nat) (t x:Int),v'=.slice (some ⟨g,0,none⟩) (b2.length / 8+1) cap/\g ≠ gb/\(w1.setCell ⟨gb,0,none⟩ v').cell? ⟨gb,0,none⟩=some (.slice (some ⟨g,0,none⟩) (b2.length / 8+1) cap)/\(w1.setCell ⟨gb,0,none⟩ v').cell? ⟨gb,1,none⟩=some (.int .i64 (b2.length:Nat)) ∧
  (w1.setCell ⟨gb,0,none⟩ v').cell? ⟨g,b2.length / 8,none⟩=some (.int .u8 x)/\(w1.setCell ⟨gb,0,none⟩ v').frozen? ⟨g,b2.length / 8,none⟩=false/\(w1.setCell ⟨gb,0,none⟩ v').frozen? ⟨gb,1,none⟩=false/\0<=x/\x<=255 ∧
  Hid (bits BinOp.or IntKind.u8 x ((Cd.bv b:Nat)*2 ^ (7 - b2.length % 8) % 256)=t) ∧
  Hid (BitsAt ((((w1.setCell ⟨gb,0,none⟩ v').setCell ⟨g,b2.length / 8,none⟩ (.int .u8 t)).drew).setCell ⟨gb,1,none⟩ (.int .i64 ((b2.length:Nat)+1:Int))) gb (b2++[b])) ∧
  Hid (∀ a:World,Below gb a (w1.setCell ⟨gb,0,none⟩ v')->Below gb a ((((w1.setCell ⟨gb,0,none⟩ v').setCell ⟨g,b2.length / 8,none⟩ (.int .u8 t)).drew).setCell ⟨gb,1,none⟩ (.int .i64 ((b2.length:Nat)+1:Int)))):=by
 have hne:some gb ≠ v.ownBlock:=fun e=>by have:=(ho.lt gb e.symm).1;omega
 have hblk:w1.heap[gb]?=wr.heap[gb]?:=by
  rw [hg.block gb (by simp;omega) hne];exact ((Below.refl wr.heap.size wr).alloc (Nat.le_refl _) o).block gb hgb
 have hc1:w1.heap[gb]?=some (.cells #[v,.int .i64 (b2.length:Nat)] 200 (0,0)):=hblk.trans hc;have hB1:Below gb a w1:=(G.alloc (Nat.le_of_lt hgb) o).grown hg (by simp;omega) (fun k hk=>by have:=(ho.lt k hk).1;omega);have hgb1:gb<w1.heap.size:=(Array.getElem?_eq_some_iff.1 hc1).1;refine ⟨by rw [cell_of_row w1 gb 0 _ _ _ hc1];rfl,by simp [World.frozen?,hc1],hB1.setCell (p:=⟨gb,0,none⟩) (Nat.le_refl _) _,?_⟩;have hp1:Cd.pk1 b2=Cd.pk b2++[0]:=by unfold Cd.pk1;rw [if_pos hr]
 have hc2:=Zcv (k:=0) hc1 v';refine ZgQ (w:=w1.setCell ⟨gb,0,none⟩ v') (v:=v') (by simpa [World.setCell] using hgb1) (by rw [hc2];rfl) ?_ b;refine ownsRow_setCell_below (a:=⟨gb,0,none⟩) ?_ (by show gb<gb+1;omega) _;rw [hp1,List.length_append,ZbR];exact hown
theorem ZeT (gb:Nat) (bs:List Bool) (word:Int) (n:Nat) (w:World) (hB:BitsAt w gb bs) (h0:0<=word) (h1:word<=1048576) (hn:n<=15) (hl:bs.length<=40000) :
 Calls Tryz.prog 183 #[.pointer (some ⟨gb,0,none⟩),.int .i64 word,.int .i64 (n:Int)] w fun e w'=>e=.returned (.tuple #[])/\Below gb w w'/\BitsAt w' gb (bs++Cd.wb word n):=by
 obtain ⟨i0,hi,hz0,hz1,hz2⟩:=info_parts Zcm;have hn':(n:Int)<=15:=by omega
 go_enter Tryz.func183,Tryz.ntmps183
 go_wp2_with fail
 go_loopw [6] (fun i wr=>∃ (k:Nat) (K:Int) (b2:List Bool),i=.int .i64 K/\Hid (K=(k:Int) - 1)/\k<=n/\Hid (b2++Cd.wb word k=bs++Cd.wb word n)/\b2.length<=40015/\BitsAt wr gb b2/\Below gb w wr) (fun i _=>(intOf i+1).toNat)
 case atStart=>exact ⟨n,(n:Int) - 1,bs,by go_num,rfl,nl _,rfl,by omega,hB,bR _ _⟩
 case round =>
  clear hB;obtain ⟨k,K,b2,rfl,HK,hk,hE,hb2,hB,G⟩:=hrel
  cases k with
  | zero =>
   obtain rfl:K=-1:=by have:=HK.out;omega
   have hE':b2=bs++Cd.wb word n:=by have:=hE.out;rwa [Cd.wb,List.append_nil] at this
   subst hE';go_wp2_with fail
   go_end0
   exact ⟨rfl,G,hB⟩
  | succ k =>
   have hKk:K=k:=by have:=HK.out;omega
   have hK0:0<=K:=by omega
   have hK1:K<=14:=by omega
   have dK:decide (0<=K)=true:=by simpa using hK0
   have HE2:Hid ((b2++[decide (word / 2 ^ k % 2=1)])++Cd.wb word k=bs++Cd.wb word n):=by
    have:=hE.out;rw [Cd.wb] at this;show _=_;rw [<-this,List.append_assoc];rfl
   have HBF:bits BinOp.and IntKind.i64 (word / 2 ^ K.toNat) 1 % 256=(Cd.bv (decide (word / 2 ^ k % 2=1)):Nat):=Zpp h0 h1 hKk;obtain ⟨hgb,v,hc,ho⟩:=hB;have HK1:Hid (K=(k:Nat)):=hKk;have Hk:Hid (k<=n):=by show _<=_;omega
   obtain ⟨N,hN⟩:∃ N:Nat,b2.length=N:=⟨_,rfl⟩
   have hN8:(N:Int).tmod 8=(N % 8:Nat):=by rw [Int.tmod_eq_emod_of_nonneg (by omega)];omega
   have hN9:(N:Int).tdiv 8=(N / 8:Nat):=by rw [Int.tdiv_eq_ediv_of_nonneg (by omega)];omega
   clear hKk HK hE;by_cases hr:b2.length % 8=0
   ·have d0:(((N % 8:Nat):Int) == 0)=true:=by simp;omega
    have hlen:(Cd.pk b2).length<=6000:=by rw [Cd.Zcd];omega
    have HNl:Hid (b2.length=N):=hN;have hNb:N<=40015:=by omega
    have hv0:wr.cell? ⟨gb,0,none⟩=some v:=by rw [cell_of_row wr gb 0 _ _ _ hc];rfl
    have hv1:wr.cell? ⟨gb,1,none⟩=some (.int .i64 (N:Nat)):=by rw [cell_of_row wr gb 1 _ _ _ hc,<-hN];rfl
    have hle:gb+1<=(wr.alloc (.cells #[.int .u8 0] 5)).heap.size:=by simp;omega
    have Hc:Hid (wr.heap[gb]?=some (.cells #[v,.int .i64 (b2.length:Nat)] 200 (0,0))):=hc;have Hr:Hid (b2.length % 8=0):=hr;clear hN hr hc;go_wp2_with (at_builtin;go_must (refine wpList_append_own _ rfl _ _ 93 rfl (gb+1) 5 i0 (.int .u8 0) 1 1 Tryz.underlying93 hi hz0 hz1 hz2 rfl (by decide) _ _ _ rfl (ho.alloc _) ⟨wr.heap.size,0,none⟩ 1 1 [.int .u8 0] rfl rfl (cell_one_new _ _ _) (ZdP _) (ZaO (by omega)) (by omega) hle ?_;intro v' w1 hown' hgrow _;obtain ⟨y1,y2,y3,g,cap,t,x,rfl,q1,q2,q3,q4,q5,q6,q7,q8,Q1,Q2,Q3⟩:=ZoP hgb Hc.out ho Hr.out hown' hgrow G (decide (word / 2 ^ k % 2=1));have HB3:=Q3.out w y3.out;rw [HNl.out] at q2 q3 q4 q5 q6 Q1 Q2 HB3))
    rw [HNl.out];have HQ2:=Q2;have HQ1:=Q1.out;generalize w1.setCell ⟨gb,0,none⟩ (.slice (some ⟨g,0,none⟩) (N / 8+1) cap)=wq at *
    have z1:((wq.setCell ⟨g,N / 8,none⟩ (.int .u8 t)).drew).cell? ⟨gb,1,none⟩=some (.int .i64 (N:Nat)):=by
     show (wq.setCell ⟨g,N / 8,none⟩ (.int .u8 t)).cell? ⟨gb,1,none⟩=_;rw [ZbD _ _ _ _ (by exact q1)];exact q3
    have z2:((wq.setCell ⟨g,N / 8,none⟩ (.int .u8 t)).drew).frozen? ⟨gb,1,none⟩=false:=by
     show (wq.setCell ⟨g,N / 8,none⟩ (.int .u8 t)).frozen? ⟨gb,1,none⟩=_;rw [fS];exact q6
    have HLn:Hid (b2.length+1<=40015):=by
     have:=congrArg List.length HE2.out;simp [Cd.ZdO] at this;show _<=_;omega
    generalize Cd.bv (decide (word / 2 ^ k % 2=1))=bb at *;clear Q1 Q2 Q3 y1 y2 y3 hv0 hv1 ho hown' hgrow hlen hle;go_wp2_with fail
    go_region
    go_wp2_with fail
    go_roundw
    case rel=>exact ⟨k,K - 1,b2++[decide (word / 2 ^ k % 2=1)],by go_num,by have:=HK1.out;show _=_;omega,Hk.out,HE2,by have:=HLn.out;simp;omega,HQ2.out,HB3⟩
    case measure=>simp [intOf];omega
   ·have hp1:Cd.pk1 b2=Cd.pk b2:=by unfold Cd.pk1;rw [if_neg hr]
    rw [<-hp1] at ho;obtain ⟨g,cap,t,x,rfl,q1,q2,q3,q4,q5,q6,q7,q8,Q1,Q2,Q3⟩:=ZgQ hgb hc ho (decide (word / 2 ^ k % 2=1));clear hp1 ho hc;have HB3:=Q3.out w G;rw [hN] at q2 q3 q4 q5 Q1 Q2 HB3;have HQ2:Hid (BitsAt (((wr.setCell ⟨g,N / 8,none⟩ (.int .u8 t)).drew).setCell ⟨gb,1,none⟩ (.int .i64 ((N:Nat)+1:Int))) gb (b2++[decide (word / 2 ^ k % 2=1)])):=Q2.out;have d0:(((N % 8:Nat):Int) == 0)=false:=by simp;omega
    have HLn:Hid (b2.length+1<=40015):=by
     have:=congrArg List.length HE2.out;simp [Cd.ZdO] at this;show _<=_;omega
    have HQ1:=Q1.out;generalize Cd.bv (decide (word / 2 ^ k % 2=1))=bb at *;clear Q1 Q2 Q3;have hNb:N<=40015:=by omega
    have HNl:Hid (b2.length=N):=hN;clear hN hr
    have z1:((wr.setCell ⟨g,N / 8,none⟩ (.int .u8 t)).drew).cell? ⟨gb,1,none⟩=some (.int .i64 (N:Nat)):=by
     show (wr.setCell ⟨g,N / 8,none⟩ (.int .u8 t)).cell? ⟨gb,1,none⟩=_;rw [ZbD _ _ _ _ (by exact q1)];exact q3
    have z2:((wr.setCell ⟨g,N / 8,none⟩ (.int .u8 t)).drew).frozen? ⟨gb,1,none⟩=false:=by
     show (wr.setCell ⟨g,N / 8,none⟩ (.int .u8 t)).frozen? ⟨gb,1,none⟩=_;rw [fS];exact q6
    go_wp2_with fail
    go_region
    go_wp2_with fail
    go_roundw
    case rel=>exact ⟨k,K - 1,b2++[decide (word / 2 ^ k % 2=1)],by go_num,by have:=HK1.out;show _=_;omega,Hk.out,HE2,by have:=HLn.out;simp;omega,HQ2.out,HB3⟩
    case measure=>simp [intOf];omega
namespace Cd
theorem wI_v (f:Nat->Int) (n:Int) (x:Int × (Nat->Int)) (M:Int) (h0:0<=x.1) (h1:x.1+16<=M) (hx:∀ i,0<=x.2 i/\x.2 i<=M):∀ k,k<=16->∀ i,0<=(wI f n x k).2 i/\(wI f n x k).2 i<=M:=by
 intro k
 induction k with
 | zero=>intro _;exact hx
 | succ k ih =>
  intro hk i;have hb:=wI_b f n x k;have:=ih (by omega) i;rw [wI];split
  ·simp only;unfold upd;split
   ·omega
   ·exact this
  ·exact this
theorem wO_v (f:Nat->Int):∀ n,n<=15->∀ i,0<=(wO f n).2 i/\(wO f n).2 i<=1048576:=by
 intro n
 induction n with
 | zero=>intro _ i;simp [wO]
 | succ n ih =>
  intro hn;have hb:=wO_b f n;have h2:(2:Int) ^ n<=2 ^ 14:=ZbO (by omega);rw [wO];exact wI_v f _ ((wO f n).1*2,(wO f n).2) 1048576 (show 0<=(wO f n).1*2 by omega) (show (wO f n).1*2+16<=1048576 by omega) (ih (by omega)) 16 (nl _)
theorem Znk (f:Nat->Int) (i:Nat):0<=wds f i/\wds f i<=1048576:=wO_v f 15 (nl _) i
def cw (f:Nat->Int) (s:Nat):List Bool:=wb (wds f s) (f s).toNat
def at8 (s:ByteArray) (k:Nat):Nat:=(s.data.toList[k]?.getD 0).toNat
theorem ZaE (s:ByteArray) (k:Nat):at8 s k<256:=(s.data.toList[k]?.getD 0).toNat_lt
def wrK (f:Nat->Int) (s:ByteArray):Nat->Option (List Bool)
 | 0=>some []
 | k+1=>match wrK f s k with
  | none=>none
  | some bs=>if f (at8 s k / 16)=0\/f (at8 s k % 16)=0 then none else some (bs++cw f (at8 s k / 16)++cw f (at8 s k % 16))
theorem Zpw {f:Nat->Int} {s:ByteArray} {k:Nat} (h:wrK f s k=none):∀ j,wrK f s (k+j)=none:=by
 intro j
 induction j with
 | zero=>exact h
 | succ j ih=>rw [<-Nat.add_assoc,wrK,ih]
theorem ZfA {f:Nat->Int} {s:ByteArray} {k:Nat} {bs:List Bool} (h:wrK f s k=some bs) (h1:¬ (f (at8 s k / 16)=0\/f (at8 s k % 16)=0)):wrK f s (k+1)=some (bs++cw f (at8 s k / 16)++cw f (at8 s k % 16)):=by
 rw [wrK,h];simp only;rw [if_neg h1]
theorem Zky {f:Nat->Int} {s:ByteArray} {k n:Nat} {bs:List Bool} (hk:k<n) (h:wrK f s k=some bs) (h1:f (at8 s k / 16)=0\/f (at8 s k % 16)=0):wrK f s n=none:=by
 have:wrK f s (k+1)=none:=by rw [wrK,h];simp only;rw [if_pos h1]
 have h2:=Zpw this (n - (k+1))
 rwa [show k+1+(n - (k+1))=n by omega] at h2
theorem Zha {f:Nat->Int} (h:InR f 15 16) {i:Nat} (hi:i<16):(cw f i).length<=15:=by
 rw [cw,ZdO];have:=h i hi;omega
theorem Zdw {f:Nat->Int} {s:ByteArray} (h:InR f 15 16):∀ k bs,wrK f s k=some bs->bs.length<=30*k:=by
 intro k
 induction k with
 | zero=>intro bs h;simp [wrK] at h;subst h;simp
 | succ k ih =>
  intro bs hb;rw [wrK] at hb;have hlt:=ZaE s k
  cases hq:wrK f s k with
  | none=>rw [hq] at hb;simp at hb
  | some b2 =>
   rw [hq] at hb;simp only at hb;split at hb
   ·simp at hb
   ·simp only [Option.some.injEq] at hb;subst hb;have h1:=ih b2 hq;have h2:=Zha h (i:=at8 s k / 16) (by omega);have h3:=Zha h (i:=at8 s k % 16) (by omega);simp only [List.length_append];omega
def wrt (f:Nat->Int) (s:ByteArray):ByteArray × Int :=
 if chk f ≠ 0 then (⟨#[]⟩,chk f) else if 1024<s.size then (⟨#[]⟩,2) else match wrK f s s.size with | none=>(⟨#[]⟩,5) | some bs=>(⟨(pk bs).toArray⟩,0)
end Cd
theorem BitsAt.below {w w':World} {gb:Nat} {bs:List Bool} (h:BitsAt w gb bs) (hb:Below w.heap.size w w'):BitsAt w' gb bs:=by
 obtain ⟨h1,v,h2,h3⟩:=h;refine ⟨nT h1 hb.size,v,by rw [hb.block gb h1];exact h2,?_⟩;refine ⟨h3.1,?_⟩;rcases h3.2 with h | ⟨g,cap,cur,rfl,e1,e2,e3⟩
 ·exact .inl h
 ·exact .inr ⟨g,cap,cur,rfl,e1,by rw [hb.block g (Array.getElem?_eq_some_iff.1 e2).1];exact e2,e3⟩
theorem Zqj (w:World):BitsAt (w.alloc (.cells #[.slice none 0 0,.int .i64 0] 200)) w.heap.size [] :=
 ⟨by simp,.slice none 0 0,heap_alloc_last w _,World.ownsRow_nil _ _ _ _⟩
theorem RowAt.keep {B g:Nat} {w w':World} {f:Nat->Int} (h:RowAt w g f) (hb:Below B w w') (hg:g<B):RowAt w' g f:=⟨nT h.1 hb.size,by rw [hb.block g hg];exact h.2⟩
theorem Zhi (f:Nat->Int) (s:ByteArray) (w:World) (h0:Cd.chk f=0) (hs:s.size<=1024) :
 Calls Tryz.prog 162 #[.agg (arr f),.string s] w fun e w'=>e=.returned (.tuple #[.string (Cd.wrt f s).1,.int .i64 (Cd.wrt f s).2])/\Below w.heap.size w w':=by
 have hck:=fun w=>Zae f w
 rw [h0] at hck;have hwd:=fun w=>ZcT f w
 have hin:=Zc f;have hinw:=Zc (Cd.wds f);have hR:Hid (Cd.InR f 15 16):=(Cd.Zd h0).1;have h0':Hid (Cd.chk f=0):=h0;have hs':(s.size:Int)<=1024:=by omega
 have ds:decide (1024<(s.size:Int))=false:=by simp;omega
 have R1:=RowAt.new w f;have HB:Below w.heap.size w (w.alloc (.cells (arr f) 127)):=(bR _ _).alloc (nl _) _
 obtain ⟨r1,r2,hr⟩:∃ r1 r2,Cd.wrt f s=(r1,r2):=⟨_,_,rfl⟩
 rw [hr];have Hr:Hid (Cd.wrt f s=(r1,r2)):=hr;clear hr h0;go_enter Tryz.func162,Tryz.ntmps162
 go_wp2_with (refine wpList_load_row rfl 127 _ rfl w.heap.size rfl 127 (arr f) (0,0) _ R1.2 Tryz.underlying127 rfl hin ?_)
 refine (hck _).mono ?_;rintro e w1 ⟨rfl,G1⟩;have S1:=R1.below G1;have B1:=bch HB G1 (nl _);clear R1 HB G1 hck;go_wp2_with (refine wpList_load_row rfl 127 _ rfl w.heap.size rfl 127 (arr f) (0,0) _ S1.2 Tryz.underlying127 rfl hin ?_)
 refine (hwd _).mono ?_;rintro e w2 ⟨rfl,G2⟩;have T1:=S1.below G2;have B2:=bch B1 G2 (nl _);clear S1 B1 G2 hwd;go_wp2_with (refine wpList_store_row rfl 127 _ _ rfl w2.heap.size (arr (Cd.wds f)) rfl rfl 127 _ (heap_alloc_last w2 _) hinw rfl (ZW _) ?_;rw [World.setRow_alloc_new])
 have T7:=(RowAt.new w2 (Cd.wds f)).alloc (.cells #[.slice none 0 0,.int .i64 0] 200);have T2:=(T1.alloc (.cells (arr (Cd.wds f)) 127)).alloc (.cells #[.slice none 0 0,.int .i64 0] 200);have TB:=Zqj (w2.alloc (.cells (arr (Cd.wds f)) 127));have B3:Below w.heap.size w ((w2.alloc (.cells (arr (Cd.wds f)) 127)).alloc (.cells #[.slice none 0 0,.int .i64 0] 200)):=(B2.alloc (Nat.le_of_lt T1.1) _).alloc (by have:=T1.1;simp;omega) _;have hsz9:(w2.alloc (.cells (arr (Cd.wds f)) 127)).heap.size=w2.heap.size+1:=by simp
 rw [hsz9] at TB
 have hq:Hid (w.heap.size<w2.heap.size/\w2.heap.size<w2.heap.size+1):=⟨T1.1,by omega⟩
 clear hsz9 T1 B2;generalize (w2.alloc (.cells (arr (Cd.wds f)) 127)).alloc (.cells #[.slice none 0 0,.int .i64 0] 200)=w3 at *;generalize w2.heap.size+1=gb at *;generalize w2.heap.size=g7 at *;go_loopw [24] (fun i wr=>∃ (k:Nat) (bs:List Bool),k<=s.size/\i=.int .i64 k/\Hid (Cd.wrK f s k=some bs)/\RowAt wr w.heap.size f/\RowAt wr g7 (Cd.wds f)/\BitsAt wr gb bs/\Below w.heap.size w wr) (fun i _=>s.size - (intOf i).toNat)
 case atStart=>exact ⟨0,[],by omega,rfl,rfl,T2,T7,TB,B3⟩
 case round =>
  clear T2 T7 TB B3;obtain ⟨k,bs,hk,rfl,hW,T2,T7,TB,B3⟩:=hrel;by_cases hlt:k<s.size
  ·have hk1:decide ((k:Int)<(s.size:Int))=true:=by simp;omega
   have hk2:decide (k<s.size)=true:=by simp;omega
   obtain ⟨x,hx⟩:∃ x:Int,(s[k].toNat:Int)=x:=⟨_,rfl⟩
   have hA:Cd.at8 s k=s[k].toNat:=by unfold Cd.at8;rw [Nm.ZN s k hlt];rfl
   have hA2:=Cd.ZaE s k;have hx0:0<=x:=by omega
   have hx1:x<=255:=by omega
   obtain ⟨H,hH⟩:∃ H,Cd.at8 s k / 16=H:=⟨_,rfl⟩
   obtain ⟨L,hL⟩:∃ L,Cd.at8 s k % 16=L:=⟨_,rfl⟩
   have e1:x / 16=(H:Int):=by omega
   have e2:x % 16=(L:Int):=by omega
   have e3:x.tdiv 16=(H:Int):=by rw [Int.tdiv_eq_ediv_of_nonneg hx0];exact e1
   have e4:x.tmod 16=(L:Int):=by rw [Int.tmod_eq_emod_of_nonneg hx0];exact e2
   have hH1:H<16:=by omega
   have hL1:L<16:=by omega
   have hH2:(H:Int)<16:=by omega
   have hL2:(L:Int)<16:=by omega
   have HN:Hid (¬ (f H=0\/f L=0)->Cd.wrK f s (k+1)=some (bs++Cd.cw f H++Cd.cw f L)):=fun h=>by have:=Cd.ZfA hW.out (by rw [hH,hL];exact h);rw [hH,hL] at this;exact this
   have HS:Hid (f H=0\/f L=0->r1=⟨#[]⟩/\r2=5):=fun h=>by
    have h9:Cd.wrt f s=(⟨#[]⟩,5):=by
     rw [Cd.wrt,if_neg (fun h=>h h0'.out),if_neg (by omega),Cd.Zky hlt hW.out (by rw [hH,hL];exact h)]
    have h8:=Hr.out.symm.trans h9;simpa using h8
   have Hlen:Hid (bs.length<=30720):=by have:=Cd.Zdw hR.out k bs hW.out;show _<=_;omega
   clear hA hA2 hH hL e1 e2;have c1:=T2.cell H hH1;have c2:=T2.cell L hL1;have c3:=T7.cell H hH1;have c4:=T7.cell L hL1;have hfH:=hR.out H hH1;have hfL:=hR.out L hL1;have hwH:=Cd.Znk f H;have hwL:=Cd.Znk f L;by_cases hz:f H=0
   ·obtain ⟨rfl,rfl⟩:=HS.out (.inl hz);rw [hz] at c1;clear hz c2 c3 c4 hfH hfL hwH hwL;go_wp2_with fail
    go_quiet (fail)
    go_wp2_with fail
    go_ret2
    exact ⟨rfl,below_drewN B3 _⟩
   ·have d1:(f H == 0)=false:=by simpa using hz
    by_cases hy:f L=0
    ·obtain ⟨rfl,rfl⟩:=HS.out (.inr hy);rw [hy] at c2;clear hz hy c3 c4 hfH hfL hwH hwL;go_wp2_with fail
     go_quiet (fail)
     go_wp2_with fail
     go_ret2
     exact ⟨rfl,below_drewN B3 _⟩
    ·have d2:(f L == 0)=false:=by simpa using hy
     have HNN:Hid (Cd.wrK f s (k+1)=some (bs++Cd.cw f H++Cd.cw f L)):=HN.out (fun h=>h.elim hz hy);clear hz hy HS HN;go_wp2_with fail
     go_quiet (fail)
     go_wp2_with fail
     have U2:=T2.below (below_drewN (bR wr.heap.size wr) nq);have U7:=T7.below (below_drewN (bR wr.heap.size wr) nq);have UB:=TB.below (below_drewN (bR wr.heap.size wr) nq);have B4:=below_drewN B3 nq;clear T2 T7 TB B3 c1 c2 c3 c4;generalize wr.drewN nq=wq at *;have c1:=U2.cell H hH1;have c3:=U7.cell H hH1
     have hpH:∀ w,BitsAt w gb bs->Calls Tryz.prog 183 #[.pointer (some ⟨gb,0,none⟩),.int .i64 (Cd.wds f H),.int .i64 (f H)] w fun e w'=>e=.returned (.tuple #[])/\Below gb w w'/\BitsAt w' gb (bs++Cd.cw f H):=fun w h=>by
      have h9:=ZeT gb bs (Cd.wds f H) (f H).toNat w h hwH.1 hwH.2 (by omega) (by have:=Hlen.out;omega);rw [Int.toNat_of_nonneg hfH.1] at h9;exact h9
     have hpL:∀ w,BitsAt w gb (bs++Cd.cw f H)->Calls Tryz.prog 183 #[.pointer (some ⟨gb,0,none⟩),.int .i64 (Cd.wds f L),.int .i64 (f L)] w fun e w'=>e=.returned (.tuple #[])/\Below gb w w'/\BitsAt w' gb (bs++Cd.cw f H++Cd.cw f L):=fun w h=>by
      have h9:=ZeT gb (bs++Cd.cw f H) (Cd.wds f L) (f L).toNat w h hwL.1 hwL.2 (by omega) (by have:=Hlen.out;have:=Cd.Zha hR.out hH1;simp;omega);rw [Int.toNat_of_nonneg hfL.1] at h9;exact h9
     generalize Cd.cw f H=CH at *;generalize Cd.cw f L=CL at *;generalize f H=fH at *
     have hcL:∀ w',RowAt w' w.heap.size f->RowAt w' g7 (Cd.wds f)->w'.cell? ⟨w.heap.size,L,none⟩=some (.int .i64 (f L))/\w'.cell? ⟨g7,L,none⟩=some (.int .i64 (Cd.wds f L)):=fun w' r1 r2=>⟨r1.cell L hL1,r2.cell L hL1⟩
     generalize Cd.wds f H=wH at *;have HhL:Hid (∀ w',RowAt w' w.heap.size f->RowAt w' g7 (Cd.wds f)->w'.cell? ⟨w.heap.size,L,none⟩=some (.int .i64 (f L))/\w'.cell? ⟨g7,L,none⟩=some (.int .i64 (Cd.wds f L))):=hcL;clear hcL hwH hfH hwL hfL;have hq7:g7<gb:=hq.out.2;have hqN:w.heap.size<gb:=Nat.lt_trans hq.out.1 hq.out.2;go_region_held3 (fun w'=>w'.cell? ⟨g7,H,none⟩=some (.int .i64 wH)/\w'.cell? ⟨w.heap.size,H,none⟩=some (.int .i64 fH)) (first | (go_keep;done) | (exact ⟨(G4.cell (by exact hq7)).trans c3,(G4.cell (by exact hqN)).trans c1⟩) | (exact ⟨by assumption,by assumption⟩)) (first | (go_at_call 183;refine (hpH _ (by exact UB)).mono ?_;rintro e w4 ⟨rfl,G4,Z4⟩))
     have G4':Below gb wq w4:=((bR gb wq).drew).trans G4;have V2:=U2.keep G4' hqN;have V7:=U7.keep G4' hq7;have B5:=B4.trans (G4'.mono (Nat.le_of_lt hqN));clear U2 U7 UB B4 G4 G4' c1 c3 hpH;obtain ⟨c2,c4⟩:=HhL.out w4 V2 V7;generalize f L=fL at *;generalize Cd.wds f L=wL at *;go_wp2_with fail
     go_region_held3 (fun w'=>w'.cell? ⟨g7,L,none⟩=some (.int .i64 wL)/\w'.cell? ⟨w.heap.size,L,none⟩=some (.int .i64 fL)) (first | (go_keep;done) | (exact ⟨(G6.cell (by exact hq7)).trans c4,(G6.cell (by exact hqN)).trans c2⟩) | (exact ⟨by assumption,by assumption⟩)) (first | (go_at_call 183;refine (hpL _ (by exact Z4)).mono ?_;rintro e w6 ⟨rfl,G6,Z6⟩))
     have G6':Below gb w4 w6:=((bR gb w4).drew).trans G6;have X2:=V2.keep G6' hqN;have X7:=V7.keep G6' hq7;have B6:=B5.trans (G6'.mono (Nat.le_of_lt hqN));clear V2 V7 B5 G6 G6' c2 c4 hpL;go_wp2_with fail
     go_roundw
     case rel=>exact ⟨k+1,_,by omega,by go_num,HNN,X2,X7,Z6,B6⟩
     case measure=>simp [intOf];omega
  ·obtain rfl:k=s.size:=by omega
   have h9:Cd.wrt f s=(⟨(Cd.pk bs).toArray⟩,0):=by
    rw [Cd.wrt,if_neg (fun h=>h h0'.out),if_neg (by omega),hW.out]
   have h8:=Hr.out.symm.trans h9;simp only [Prod.mk.injEq] at h8;obtain ⟨rfl,rfl⟩:=h8;obtain ⟨hgb,v,hc,ho⟩:=TB;have hcv:=ZbS (l:=Cd.pk bs) ho;have hv0:wr.cell? ⟨gb,0,none⟩=some v:=by rw [cell_of_row wr gb 0 _ _ _ hc];rfl
   clear h9 ho hc;go_wp2_with fail
   go_ret2
   exact ⟨rfl,B3⟩
theorem ZfE (f:Nat->Int) (s:ByteArray) (w:World) (hs0:s.size<=140737488355328) :
 Calls Tryz.prog 162 #[.agg (arr f),.string s] w fun e w'=>e=.returned (.tuple #[.string (Cd.wrt f s).1,.int .i64 (Cd.wrt f s).2])/\Below w.heap.size w w':=by
 by_cases h0:Cd.chk f=0
 ·by_cases hs:s.size<=1024
  ·exact Zhi f s w h0 hs
  ·have h9:Cd.wrt f s=(⟨#[]⟩,2):=by rw [Cd.wrt,if_neg (fun h=>h h0),if_pos (by omega)]
   rw [h9];have hck:=fun w=>Zae f w
   rw [h0] at hck;have hin:=Zc f;have hs':1024<(s.size:Int):=by omega
   have ds:decide (1024<(s.size:Int))=true:=by simp;omega
   have R1:=RowAt.new w f;have HB:Below w.heap.size w (w.alloc (.cells (arr f) 127)):=(bR _ _).alloc (nl _) _;clear h9 hs h0;go_enter Tryz.func162,Tryz.ntmps162
   go_wp2_with (refine wpList_load_row rfl 127 _ rfl w.heap.size rfl 127 (arr f) (0,0) _ R1.2 Tryz.underlying127 rfl hin ?_)
   refine (hck _).mono ?_;rintro e w1 ⟨rfl,G1⟩;have B1:=bch HB G1 (nl _);clear R1 HB G1 hck;go_wp2_with fail
   go_ret2
   exact ⟨rfl,B1⟩
 ·have h9:Cd.wrt f s=(⟨#[]⟩,Cd.chk f):=by rw [Cd.wrt,if_pos h0]
  rw [h9];have hck:=fun w=>Zae f w
  have hin:=Zc f;have R1:=RowAt.new w f;have HB:Below w.heap.size w (w.alloc (.cells (arr f) 127)):=(Below.refl _ _).alloc (Nat.le_refl _) _;generalize Cd.chk f=E at *;have d0:(E != 0)=true:=by simpa using h0
  clear h9 h0;go_enter Tryz.func162,Tryz.ntmps162
  go_wp2_with (refine wpList_load_row rfl 127 _ rfl w.heap.size rfl 127 (arr f) (0,0) _ R1.2 Tryz.underlying127 rfl hin ?_)
  refine (hck _).mono ?_;rintro e w1 ⟨rfl,G1⟩;have B1:=bch HB G1 (nl _);clear R1 HB G1 hck;go_wp2_with fail
  go_ret2
  exact ⟨rfl,B1⟩
namespace Cd
def find (f ws:Nat->Int) (n word:Int):Nat->Option Nat
 | 0=>none
 | k+1=>match find f ws n word k with
  | some s=>some s
  | none=>if f k=n/\ws k=word then some k else none
theorem Zhk {f ws:Nat->Int} {n word:Int} {k:Nat} (h:find f ws n word k=none) (h1:¬ (f k=n/\ws k=word)):find f ws n word (k+1)=none:=by rw [find,h];simp only;rw [if_neg h1]
theorem Zmh {f ws:Nat->Int} {n word:Int} {k:Nat} (h:find f ws n word k=none) (h1:f k=n/\ws k=word):∀ j,find f ws n word (k+1+j)=some k:=by
 intro j
 induction j with
 | zero=>rw [Nat.add_zero,find,h];simp only;rw [if_pos h1]
 | succ j ih=>rw [<-Nat.add_assoc,find,ih]
def ZI (b:ByteArray) (a:Nat):Nat:=at8 b (a / 8) / 2 ^ (7 - a % 8) % 2
def fnd (f ws:Nat->Int) (n word:Int):Option Nat:=find f ws n word 16
def sgn (f ws:Nat->Int) (b:ByteArray):Nat->Int->Int->Nat->Int × Nat
 | 0,_,_,a=>(-1,a)
 | m+1,n,word,a=>if 8*b.size<=a then (-1,a) else if (fnd f ws n (2*word+ZI b a)).isSome=true then (((fnd f ws n (2*word+ZI b a)).getD 0:Nat),a+1)
  else sgn f ws b m (n+1) (2*word+ZI b a) (a+1)
theorem ZiJ {f ws:Nat->Int} {b:ByteArray} {m:Nat} {n word:Int} {a:Nat} (h:8*b.size<=a):sgn f ws b m n word a=(-1,a):=by
 cases m with
 | zero=>rfl
 | succ m=>rw [sgn,if_pos h]
theorem ZdX {f ws:Nat->Int} {b:ByteArray} {m:Nat} {n word:Int} {a s:Nat} (h:¬ 8*b.size<=a) (h1:fnd f ws n (2*word+ZI b a)=some s):sgn f ws b (m+1) n word a=((s:Int),a+1):=by
 rw [sgn,if_neg h,h1,if_pos (by rfl)];rfl
theorem ZdV {f ws:Nat->Int} {b:ByteArray} {m:Nat} {n word:Int} {a:Nat} (h:¬ 8*b.size<=a) (h1:fnd f ws n (2*word+ZI b a)=none):sgn f ws b (m+1) n word a=sgn f ws b m (n+1) (2*word+ZI b a) (a+1):=by
 rw [sgn,if_neg h,h1,if_neg (by simp)]
theorem Zeg (b:ByteArray) (a:Nat):ZI b a<=1:=by unfold ZI;omega
end Cd
def rdc (f ws:Nat->Int) (b:ByteArray) (a:Nat):Array Value:=arr f++arr ws++#[.string b,.int .i64 (a:Nat)]
def RdAt (w:World) (gr:Nat) (f ws:Nat->Int) (b:ByteArray) (a:Nat):Prop:=gr<w.heap.size/\w.heap[gr]?=some (.cells (rdc f ws b a) 228 (0,0))
theorem RdAt.below {w w':World} {gr:Nat} {f ws:Nat->Int} {b:ByteArray} {a:Nat} (h:RdAt w gr f ws b a) (hb:Below w.heap.size w w'):RdAt w' gr f ws b a:=⟨nT h.1 hb.size,by rw [hb.block gr h.1];exact h.2⟩
theorem RdAt.l {w:World} {gr:Nat} {f ws:Nat->Int} {b:ByteArray} {a:Nat} (h:RdAt w gr f ws b a) (k:Nat) (hk:k<16):w.cell? ⟨gr,k,none⟩=some (.int .i64 (f k)):=by
 rw [cell_of_row w gr k _ _ _ h.2,rdc,Array.getElem?_append_left (by simp [Zi];omega),Array.getElem?_append_left (by rw [Zi];exact hk),Zcc f k hk]
theorem RdAt.w {w:World} {gr:Nat} {f ws:Nat->Int} {b:ByteArray} {a:Nat} (h:RdAt w gr f ws b a) (k:Nat) (hk:k<16):w.cell? ⟨gr,16+k,none⟩=some (.int .i64 (ws k)):=by
 rw [cell_of_row w gr _ _ _ _ h.2,rdc,Array.getElem?_append_left (by simp [Zi];omega),Array.getElem?_append_right (by rw [Zi];omega),Zi,show 16+k - 16=k by omega,Zcc ws k hk]
theorem RdAt.b {w:World} {gr:Nat} {f ws:Nat->Int} {b:ByteArray} {a:Nat} (h:RdAt w gr f ws b a):w.cell? ⟨gr,32,none⟩=some (.string b):=by
 rw [cell_of_row w gr _ _ _ _ h.2,rdc,Array.getElem?_append_right (by simp [Zi])];simp [Zi]
theorem RdAt.at_ {w:World} {gr:Nat} {f ws:Nat->Int} {b:ByteArray} {a:Nat} (h:RdAt w gr f ws b a):w.cell? ⟨gr,33,none⟩=some (.int .i64 (a:Nat)):=by
 rw [cell_of_row w gr _ _ _ _ h.2,rdc,Array.getElem?_append_right (by simp [Zi])];simp [Zi]
theorem RdAt.frozen {w:World} {gr:Nat} {f ws:Nat->Int} {b:ByteArray} {a:Nat} (h:RdAt w gr f ws b a) (k:Nat):w.frozen? ⟨gr,k,none⟩=false:=by simp [World.frozen?,h.2]
theorem ZsQ (f ws:Nat->Int) (b:ByteArray) (a a':Nat):(rdc f ws b a).setIfInBounds 33 (.int .i64 (a':Nat))=rdc f ws b a':=by
 unfold rdc;have hs:(arr f++arr ws).size=32:=by rw [Array.size_append,Zi,Zi]
 generalize arr f++arr ws=c at *;apply Array.ext_getElem?;intro i;rw [Array.getElem?_setIfInBounds];by_cases hi:i<32
 ·rw [if_neg (by omega),Array.getElem?_append_left (by omega),Array.getElem?_append_left (by omega)]
 ·rw [Array.getElem?_append_right (by omega),Array.getElem?_append_right (by omega),hs];by_cases h1:i=32
  ·subst h1;simp
  ·by_cases h2:i=33
   ·subst h2;simp [hs]
   ·obtain ⟨j,rfl⟩:∃ j,i=j+34:=⟨i - 34,by omega⟩
    rw [if_neg (by omega)];simp [show j+34 - 32=j+2 by omega]
theorem RdAt.set {w:World} {gr:Nat} {f ws:Nat->Int} {b:ByteArray} {a:Nat} (h:RdAt w gr f ws b a) (a':Nat):RdAt (w.setCell ⟨gr,33,none⟩ (.int .i64 (a':Nat))) gr f ws b a':=by
 refine ⟨by have:=h.1;simpa [World.setCell] using this,?_⟩;rw [Zcv h.2,ZsQ]
theorem Zow (b:ByteArray) (a:Nat):bits BinOp.and IntKind.u8 ((Cd.at8 b (a / 8):Int) / 2 ^ (7 - a % 8)) 1=(Cd.ZI b a:Nat):=by
 have h1:=Cd.ZaE b (a / 8);have e0:((Cd.at8 b (a / 8):Int) / 2 ^ (7 - a % 8))=((Cd.at8 b (a / 8) / 2 ^ (7 - a % 8):Nat):Int):=by push_cast;rfl
 have h2:Cd.at8 b (a / 8) / 2 ^ (7 - a % 8)<=Cd.at8 b (a / 8):=Nat.div_le_self _ _;unfold Cd.ZI;rw [e0];generalize Cd.at8 b (a / 8) / 2 ^ (7 - a % 8)=q at *;have h3:=bits_mask .u8 8 (by decide) wraps_u8 1 (by decide) (q:Int) (by omega) (by omega);have e:((2:Int) ^ 1 - 1)=1:=by decide
 have e2:((2:Int) ^ 1)=2:=by decide
 rw [e,e2] at h3;rw [h3];omega
def Only (g:Nat) (a w:World):Prop:=Below g a w/\w.heap.size=a.heap.size/\∀ k,k ≠ g->w.heap[k]?=a.heap[k]?
theorem Only.refl (g:Nat) (a:World):Only g a a:=⟨bR _ _,rfl,fun _ _=>rfl⟩
theorem Only.drewN {g:Nat} {a w:World} (h:Only g a w) (n:Nat):Only g a (w.drewN n):=⟨below_drewN h.1 n,h.2.1,h.2.2⟩
theorem Only.set {g:Nat} {a w:World} (h:Only g a w) (k:Nat) (v:Value):Only g a (w.setCell ⟨g,k,none⟩ v):=by
 refine ⟨h.1.setCell (p:=⟨g,k,none⟩) (Nat.le_refl _) _,by have:=h.2.1;simpa [World.setCell] using this,fun j hj=>?_⟩;rw [ZcB (fun e=>hj e.symm)];exact h.2.2 j hj
theorem Only.trans {g:Nat} {a b c:World} (h:Only g a b) (h':Only g b c):Only g a c:=⟨h.1.trans h'.1,h'.2.1.trans h.2.1,fun k hk=>(h'.2.2 k hk).trans (h.2.2 k hk)⟩
theorem Only.own {g:Nat} {a w:World} (h:Only g a w) {t:TypeId} {sz n:Nat} {v:Value} {cs:List Value} (ho:a.ownsRow (g+1) t sz v n cs):w.ownsRow (g+1) t sz v n cs:=by
 refine ⟨ho.1,?_⟩;rcases ho.2 with h0 | ⟨q,cap,cur,rfl,e1,e2,e3⟩
 ·exact .inl h0
 ·exact .inr ⟨q,cap,cur,rfl,e1,by rw [h.2.2 q (by omega)];exact e2,e3⟩
theorem ZpW (gr:Nat) (f ws:Nat->Int) (b:ByteArray) (a:Nat) (w:World) (hB:RdAt w gr f ws b a) (hs:b.size<=140737488355328) (ha:a<=8*b.size) :
 Calls Tryz.prog 209 #[.pointer (some ⟨gr,0,none⟩)] w fun e w'=>e=.returned (.int .i64 (Cd.sgn f ws b 15 1 0 a).1)/\Only gr w w'/\RdAt w' gr f ws b (Cd.sgn f ws b 15 1 0 a).2:=by
 obtain ⟨r1,r2,hr⟩:∃ r1 r2,Cd.sgn f ws b 15 1 0 a=(r1,r2):=⟨_,_,rfl⟩
 rw [hr];have Hr:Hid (Cd.sgn f ws b 15 1 0 a=(r1,r2)):=hr;have hs':(b.size:Int)<=140737488355328:=by omega
 clear hr;go_enter Tryz.func209,Tryz.ntmps209
 go_wp2_with fail
 go_loopw [3,4] (fun x i wr=>∃ (m:Nat) (n word:Int) (A:Nat),m<=15/\i=.int .i64 n/\Hid (n=16 - (m:Int))/\x=.int .i64 word/\0<=word/\word<2 ^ (15 - m)/\A<=8*b.size/\Hid (Cd.sgn f ws b m n word A=(r1,r2))/\RdAt wr gr f ws b A/\Only gr w wr) (fun _ i _=>20 - (intOf i).toNat)
 case atStart=>exact ⟨15,1,0,a,by omega,rfl,by show _=_;omega,rfl,by omega,by decide,ha,Hr,hB,Only.refl _ _⟩
 case round =>
  clear hB Hr;obtain ⟨m,n,word,A,hm,rfl,Hn,rfl,hw0,hw1,hA,Hr,hB,G⟩:=hrel;have c32:=hB.b;have c33:=hB.at_;by_cases hend:m=0\/8*b.size<=A
  ·have h9:Cd.sgn f ws b m n word A=(-1,A):=by
    rcases hend with h | h
    ·subst h;rfl
    ·exact Cd.ZiJ h
   have h8:=Hr.out.symm.trans h9;simp only [Prod.mk.injEq] at h8;obtain ⟨rfl,rfl⟩:=h8;by_cases hm0:m=0
   ·have d1:decide (n<=15)=false:=by have:=Hn.out;simp;omega
    clear hend h9 hw1;go_wp2_with fail
    go_quiet (fail)
    go_wp2_with fail
    go_ret
    exact ⟨rfl,G.drewN _,hB.below (below_drewN (bR _ _) _)⟩
   ·have d1:decide (n<=15)=true:=by have:=Hn.out;simp;omega
    have d2:decide ((r2:Int)<8*(b.size:Int))=false:=by simp;omega
    have d3:decide (r2<8*b.size)=false:=by simp;omega
    clear hend h9 hw1;go_wp2_with fail
    go_quiet (fail)
    go_wp2_with fail
    go_ret
    exact ⟨rfl,G.drewN _,hB.below (below_drewN (bR _ _) _)⟩
  ·have hA1:A<8*b.size:=by omega
   obtain ⟨m,rfl⟩:∃ j,m=j+1:=⟨m - 1,by omega⟩
   have d1:decide (n<=15)=true:=by have:=Hn.out;simp;omega
   have d2:decide ((A:Int)<8*(b.size:Int))=true:=by simp;omega
   have d3:decide (A<8*b.size)=true:=by simp;omega
   obtain ⟨q,hq⟩:∃ q,A / 8=q:=⟨_,rfl⟩
   obtain ⟨r,hr⟩:∃ r,A % 8=r:=⟨_,rfl⟩
   have hql:q<b.size:=by omega
   have e3:(A:Int).tmod 8=(r:Int):=by rw [Int.tmod_eq_emod_of_nonneg (by omega)];omega
   have e4:(A:Int).tdiv 8=(q:Int):=by rw [Int.tdiv_eq_ediv_of_nonneg (by omega)];omega
   have e5:(A:Int) % 8=(r:Int):=by omega
   have e6:(A:Int) / 8=(q:Int):=by omega
   have hA8:Cd.at8 b q=b[q].toNat:=by unfold Cd.at8;rw [Nm.ZN b q hql];rfl
   obtain ⟨x,hx⟩:∃ x:Int,(b[q].toNat:Int)=x:=⟨_,rfl⟩
   have hbf:=Zow b A;rw [hq,hr,hA8,hx] at hbf;have hx0:0<=x:=by omega
   have hx1:x<=255:=by have:=b[q].toNat_lt;omega
   have hr8:r<8:=by omega
   have hw2:word<=32768:=by have h9:(2:Int) ^ (15 - (m+1))<=2 ^ 15:=Cd.ZbO (by omega);omega
   have HW1:Hid (2*word+(Cd.ZI b A:Nat)<2 ^ (15 - m)):=by
    have h9:(2:Int) ^ (15 - m)=2*2 ^ (15 - (m+1)):=by rw [show 15 - m=(15 - (m+1))+1 by omega,Int.pow_succ];omega
    have:=Cd.Zeg b A;show _<_;omega
   have hbl:=Cd.Zeg b A;have HS0:Hid (∀ k,Cd.fnd f ws n (2*word+(Cd.ZI b A:Nat))=some k->(r1,r2)=((k:Int),A+1)):=fun k h=>Hr.out.symm.trans (Cd.ZdX (by omega) h)
   have HS1:Hid (Cd.fnd f ws n (2*word+(Cd.ZI b A:Nat))=none->Cd.sgn f ws b m (n+1) (2*word+(Cd.ZI b A:Nat)) (A+1)=(r1,r2)):=fun h=>(Cd.ZdV (by omega) h).symm.trans Hr.out
   have HFN:Hid (Cd.fnd f ws n (2*word+(Cd.ZI b A:Nat))=Cd.find f ws n (2*word+(Cd.ZI b A:Nat)) 16):=rfl;have Hm:Hid (m<=15):=by show _<=_;omega
   have hn1:1<=n/\n<=15:=by have:=Hn.out;omega
   have Hn2:Hid (n+1=16 - (m:Int)):=by have:=Hn.out;show _=_;omega
   have HA2:Hid (A+1<=8*b.size):=hA1;generalize Cd.ZI b A=y at *;clear hend Hr hw1 Hn hA8 hm
   have HQR:Hid (A / 8=q/\A % 8=r):=⟨hq,hr⟩
   have hAb:A<=1125899906842624:=by omega
   clear hq hr hA;go_wp2_with fail
   go_quiet (fail)
   go_wp2_with fail
   have hB2:=hB.below (below_drewN (bR wr.heap.size wr) nq);have G2:=G.drewN nq;clear hB G c32 c33;generalize wr.drewN nq=wq at *;have c32:=hB2.b;have c33:=hB2.at_;have hf33:=hB2.frozen 33;go_quiet (fail)
   have hB3:=hB2.below (below_drewN (bR wq.heap.size wq) nq);have G3:=G2.drewN nq;clear hB2 G2 c32 c33 hf33;generalize wq.drewN nq=wy at *;have c33:=hB3.at_;have hf33:=hB3.frozen 33;have hB4:RdAt (wy.setCell ⟨gr,33,none⟩ (.int .i64 ((A:Int)+1))) gr f ws b (A+1):=hB3.set (A+1);have G4:Only gr w (wy.setCell ⟨gr,33,none⟩ (.int .i64 ((A:Int)+1))):=G3.set 33 _;go_wp2_with fail
   clear hB3 G3 c33 hf33;generalize wy.setCell ⟨gr,33,none⟩ (.int .i64 ((A:Int)+1))=wz at *
   obtain ⟨WD,hWD⟩:∃ WD:Int,2*word+(y:Int)=WD:=⟨_,rfl⟩
   rw [hWD] at HW1 HS0 HS1 HFN;have hWD0:0<=WD:=by omega
   rw [hWD];clear hWD;go_loop [52] (fun i=>∃ k:Nat,k<=16/\i=.int .i64 k/\Hid (Cd.find f ws n WD k=none)) (fun i=>16 - (intOf i).toNat)
   case atStart=>exact ⟨0,by omega,rfl,rfl⟩
   case round =>
    obtain ⟨k,hk,rfl,hF⟩:=hrel;by_cases hlt:k<16
    ·have hk1:decide ((k:Int)<16)=true:=by simp;omega
     have hk2:decide (k<16)=true:=by simp;omega
     have cl:=hB4.l k hlt;have cw:=hB4.w k hlt
     have HF0:Hid (f k=n/\ws k=WD->r1=(k:Int)/\r2=A+1):=fun h=>by
      have h9:=Cd.Zmh hF.out h (15 - k);rw [show k+1+(15 - k)=16 by omega,<-HFN.out] at h9;have h8:=HS0.out k h9;simpa using h8
     have HF1:Hid (¬ (f k=n/\ws k=WD)->Cd.find f ws n WD (k+1)=none):=fun h=>Cd.Zhk hF.out h
     by_cases h1:f k=n
     ·by_cases h2:ws k=WD
      ·obtain ⟨rfl,rfl⟩:=HF0.out ⟨h1,h2⟩;have dd1:(f k == n)=true:=by simpa using h1
       have dd2:(ws k == WD)=true:=by simpa using h2
       generalize f k=z1 at *;generalize ws k=z2 at *;clear h1 h2 HF0 HF1;go_wp2_with fail
       go_ret
       exact ⟨rfl,G4,hB4⟩
      ·have HFF:Hid (Cd.find f ws n WD (k+1)=none):=HF1.out (fun h=>h2 h.2);have dd1:(f k == n)=true:=by simpa using h1
       have dd2:(ws k == WD)=false:=by simpa using h2
       generalize f k=z1 at *;generalize ws k=z2 at *;clear h1 h2 HF0 HF1;go_wp2_with fail
       exact ⟨⟨k+1,by omega,by go_num,HFF⟩,by simp [intOf];omega⟩
     ·have HFF:Hid (Cd.find f ws n WD (k+1)=none):=HF1.out (fun h=>h1 h.1);have dd1:(f k == n)=false:=by simpa using h1
      generalize f k=z1 at *;clear h1 HF0 HF1;go_wp2_with fail
      exact ⟨⟨k+1,by omega,by go_num,HFF⟩,by simp [intOf];omega⟩
    ·obtain rfl:k=16:=by omega
     have HZ:Hid (Cd.sgn f ws b m (n+1) WD (A+1)=(r1,r2)):=HS1.out (HFN.out.trans hF.out);have HW2:=HW1.out;go_wp2_with fail
     go_roundw
     case rel=>exact ⟨m,n+1,WD,A+1,Hm.out,by go_num,Hn2,rfl,hWD0,HW2,HA2.out,HZ,hB4,G4⟩
     case measure=>simp [intOf];omega
def Cd.end_ (b:ByteArray) (a:Nat):Bool:=decide (b.size=(a+7) / 8) && (decide (a % 8=0) || decide (Cd.at8 b (a / 8)*2 ^ (a % 8) % 256=0))
theorem ZoH (gr:Nat) (f ws:Nat->Int) (b:ByteArray) (a:Nat) (w:World) (hB:RdAt w gr f ws b a) (hs:b.size<=140737488355328) (ha:a<=8*b.size) :
 Calls Tryz.prog 210 #[.pointer (some ⟨gr,0,none⟩)] w fun e w'=>e=.returned (.bool (Cd.end_ b a))/\Below w.heap.size w w':=by
 have hs':(b.size:Int)<=140737488355328:=by omega
 have hab:a<=1125899906842624:=by omega
 have hab':(a:Int)<=1125899906842624:=by omega
 have c32:=hB.b;have c33:=hB.at_;have e7:((a:Int)+7).tdiv 8=(((a+7) / 8:Nat):Int):=by rw [Int.tdiv_eq_ediv_of_nonneg (by omega)];omega
 have hqb:(a+7) / 8<=1125899906842624:=by omega
 by_cases h1:b.size=(a+7) / 8
 ·have d1:((b.size:Int) != (((a+7) / 8:Nat):Int))=false:=by rw [h1];simp
  have e3:(a:Int).tmod 8=((a % 8:Nat):Int):=by rw [Int.tmod_eq_emod_of_nonneg (by omega)];omega
  by_cases h2:a % 8=0
  ·have hE:Cd.end_ b a=true:=by simp [Cd.end_,h1,h2]
   rw [hE];rw [h2] at e3;have e3':(a:Int).tmod 8=0:=e3;have e9:(a:Int) % 8=0:=by omega
   generalize (a+7) / 8=q at *;clear h2 h1 hE e3;go_enter Tryz.func210,Tryz.ntmps210
   go_wp2_with fail
   go_quiet (fail)
   go_wp2_with fail
   go_quiet (fail)
   go_wp2_with fail
   go_ret
   exact ⟨rfl,below_drewN (below_drewN (bR _ _) _) _⟩
  ·obtain ⟨q,hq⟩:∃ q,a / 8=q:=⟨_,rfl⟩
   obtain ⟨r,hr⟩:∃ r,a % 8=r:=⟨_,rfl⟩
   have hql:q<b.size:=by omega
   have hA8:Cd.at8 b q=b[q].toNat:=by unfold Cd.at8;rw [Nm.ZN b q hql];rfl
   obtain ⟨x,hx⟩:∃ x:Int,(b[q].toNat:Int)=x:=⟨_,rfl⟩
   have e4:(a:Int).tdiv 8=(q:Int):=by rw [Int.tdiv_eq_ediv_of_nonneg (by omega)];omega
   have e5:(a:Int) % 8=(r:Int):=by omega
   have e6:(a:Int) / 8=(q:Int):=by omega
   rw [hr] at e3;have d2:((r:Int) == 0)=false:=by simp;omega
   have hr8:r<8:=by omega
   have hr0:r ≠ 0:=by omega
   have hE:Cd.end_ b a=(x*2 ^ r % 256 == 0):=by
    have e0:x*2 ^ r % 256=((b[q].toNat*2 ^ r % 256:Nat):Int):=by rw [<-hx];push_cast;rfl
    rw [e0,Cd.end_,hq,hr,hA8];simp only [h1,decide_true,Bool.true_and,hr0,decide_false,Bool.false_or];generalize b[q].toNat*2 ^ r % 256=z;by_cases hz:z=0
    ·subst hz;rfl
    ·have:((z:Int) == 0)=false:=by simp;omega
     rw [this];simp [hz]
   rw [hE];have hx0:0<=x:=by omega
   have hx1:x<=255:=by have:=b[q].toNat_lt;omega
   generalize (a+7) / 8=q9 at *;clear h2 h1 hE hq hr hA8 hr0;go_enter Tryz.func210,Tryz.ntmps210
   go_wp2_with fail
   go_quiet (fail)
   go_wp2_with fail
   go_quiet (fail)
   go_wp2_with fail
   go_ret
   exact ⟨rfl,below_drewN (below_drewN (bR _ _) _) _⟩
 ·have d1:((b.size:Int) != (((a+7) / 8:Nat):Int))=true:=by simp;omega
  have hE:Cd.end_ b a=false:=by simp [Cd.end_,h1]
  rw [hE];generalize (a+7) / 8=q at *;clear h1 hE;go_enter Tryz.func210,Tryz.ntmps210
  go_wp2_with fail
  go_quiet (fail)
  go_wp2_with fail
  go_ret
  exact ⟨rfl,below_drewN (bR _ _) _⟩
namespace Go.Proofs.YtbjbjbpgmojcbabGreat.Cd
theorem Zue {f ws:Nat->Int} {b:ByteArray}:∀ (m:Nat) (n word:Int) (a:Nat),a<=8*b.size->(sgn f ws b m n word a).2<=8*b.size:=by
 intro m
 induction m with
 | zero=>intro n word a h;exact h
 | succ m ih =>
  intro n word a h;by_cases h0:8*b.size<=a
  ·rw [ZiJ h0];exact h
  ·cases h1:fnd f ws n (2*word+ZI b a) with
   | none=>rw [ZdV h0 h1];exact ih _ _ _ (by omega)
   | some s=>rw [ZdX h0 h1];show a+1<=_;omega
def s15 (f:Nat->Int) (b:ByteArray) (a:Nat):Int × Nat:=sgn f (wds f) b 15 1 0 a
def rdK (f:Nat->Int) (b:ByteArray):Nat->Option (List UInt8 × Nat)
 | 0=>some ([],0)
 | k+1=>match rdK f b k with
  | none=>none
  | some (o,a)=>if (s15 f b a).1=-1\/(s15 f b (s15 f b a).2).1=-1 then none else some (o++[UInt8.ofNat ((s15 f b a).1*16+(s15 f b (s15 f b a).2).1).toNat],(s15 f b (s15 f b a).2).2)
theorem ZqM {f:Nat->Int} {b:ByteArray} {k:Nat} (h:rdK f b k=none):∀ j,rdK f b (k+j)=none:=by
 intro j
 induction j with
 | zero=>exact h
 | succ j ih=>rw [<-Nat.add_assoc,rdK,ih]
theorem Zgg {f:Nat->Int} {b:ByteArray} {k a a1 a2:Nat} {o:List UInt8} {x y:Int} (h:rdK f b k=some (o,a)) (h1:s15 f b a=(x,a1)) (h2:s15 f b a1=(y,a2)) (hx:¬ (x=-1\/y=-1)):rdK f b (k+1)=some (o++[UInt8.ofNat (x*16+y).toNat],a2):=by
 rw [rdK,h];simp only [h1,h2];rw [if_neg hx]
theorem Zgt {f:Nat->Int} {b:ByteArray} {k n a a1 a2:Nat} {o:List UInt8} {x y:Int} (hk:k<n) (h:rdK f b k=some (o,a)) (h1:s15 f b a=(x,a1)) (h2:s15 f b a1=(y,a2)) (hx:x=-1\/y=-1):rdK f b n=none:=by
 have:rdK f b (k+1)=none:=by
  rw [rdK,h];simp only [h1,h2];rw [if_pos hx]
 have h2:=ZqM this (n - (k+1))
 rwa [show k+1+(n - (k+1))=n by omega] at h2
def rd (f:Nat->Int) (b:ByteArray) (n:Int):ByteArray × Int :=
 if chk f ≠ 0 then (⟨#[]⟩,chk f) else if n<0\/1024<n then (⟨#[]⟩,3) else match rdK f b n.toNat with
  | none=>(⟨#[]⟩,1)
  | some (o,a)=>if end_ b a=true then (⟨o.toArray⟩,0) else (⟨#[]⟩,1)
theorem ZaX {f:Nat->Int} {b:ByteArray} {n:Int} (hc:chk f=0) (hn:¬ (n<0\/1024<n)) (h:rdK f b n.toNat=none):rd f b n=(⟨#[]⟩,1):=by
 rw [rd,if_neg (fun h=>h hc),if_neg hn,h]
theorem Zbz {f:Nat->Int} {b:ByteArray} {n:Int} {o:List UInt8} {a:Nat} (hc:chk f=0) (hn:¬ (n<0\/1024<n)) (h:rdK f b n.toNat=some (o,a)):rd f b n=if end_ b a=true then (⟨o.toArray⟩,0) else (⟨#[]⟩,1):=by
 rw [rd,if_neg (fun h=>h hc),if_neg hn,h]
end Go.Proofs.YtbjbjbpgmojcbabGreat.Cd
namespace Go.Proofs.YtbjbjbpgmojcbabGreat.Cd
theorem ZdT {f ws:Nat->Int} {b:ByteArray}:∀ (m n:Nat) (word:Int) (a:Nat),1<=n->(sgn f ws b m n word a).1 ≠ -1->∃ s d:Nat,sgn f ws b m n word a=((s:Int),a+d)/\s<16/\f s=((n+d:Nat):Int) - 1/\1<=d/\d<=m/\a+d<=8*b.size/\ws s / 2 ^ d=word/\∀ j,j<d->(ZI b (a+j):Int)=ws s / 2 ^ (d - 1 - j) % 2:=by
 intro m
 induction m with
 | zero=>intro n word a _ h;exact absurd rfl h
 | succ m ih =>
  intro n word a hn h;have hb:=Zeg b a;by_cases h0:8*b.size<=a
  ·rw [ZiJ h0] at h;exact absurd rfl h
  ·cases h1:fnd f ws n (2*word+ZI b a) with
   | none =>
    rw [ZdV h0 h1] at h |-
    have hnn:((n:Int)+1)=((n+1:Nat):Int):=by omega
    rw [hnn] at h |-
    obtain ⟨s,d,e,hs,hf,hd,hm,hz,hw,hj⟩:=ih (n+1) _ (a+1) (by omega) h
    have e1:ws s / 2 ^ (d+1)=word:=by
     rw [Int.pow_succ,<-Int.ediv_ediv_of_nonneg (by have:=pow_pos d;omega),hw];omega
    refine ⟨s,d+1,by rw [e,show a+1+d=a+(d+1) by omega],hs,by omega,by omega,by omega,by omega,e1,fun j hjd=>?_⟩
    cases j with
    | zero=>rw [show d+1 - 1 - 0=d by omega,hw,Nat.add_zero];omega
    | succ j =>
     have:=hj j (by omega);rw [show a+1+j=a+(j+1) by omega] at this;rw [this,show d+1 - 1 - (j+1)=d - 1 - j by omega]
   | some s =>
    rw [ZdX h0 h1]
    have hfi:∀ k,find f ws n (2*word+ZI b a) k=some s->s<k/\f s=n/\ws s=2*word+ZI b a:=by
     intro k
     induction k with
     | zero=>intro h;simp [find] at h
     | succ k ih2 =>
      intro h;rw [find] at h
      cases hq:find f ws n (2*word+ZI b a) k with
      | some t =>
       rw [hq] at h;simp only [Option.some.injEq] at h;subst h;have:=ih2 hq;exact ⟨by omega,this.2⟩
      | none =>
       rw [hq] at h;simp only at h;split at h
       ·rename_i h9
        simp only [Option.some.injEq] at h;subst h;exact ⟨by omega,h9⟩
       ·simp at h
    obtain ⟨q1,q2,q3⟩:=hfi 16 h1;refine ⟨s,1,rfl,q1,by omega,by omega,by omega,by omega,by rw [q3];simp;omega,fun j hj=>?_⟩;obtain rfl:j=0:=by omega
    rw [q3];simp;omega
theorem Ztz {f ws:Nat->Int} {n word:Int} {s:Nat} (h1:f s=n) (h2:ws s=word) (hu:∀ i,i<16->f i=n->ws i=word->i=s):∀ k,k<=16->find f ws n word k=if s<k then some s else none:=by
 intro k
 induction k with
 | zero=>intro _;rfl
 | succ k ih =>
  intro hk;rw [find,ih (by omega)];by_cases h:s<k
  ·rw [if_pos h];simp only;rw [if_pos (by omega)]
  ·rw [if_neg h];simp only;by_cases e:s=k
   ·subst e;rw [if_pos ⟨h1,h2⟩,if_pos (by omega)]
   ·rw [if_neg (fun h9=>e (hu k (by omega) h9.1 h9.2).symm),if_neg (by omega)]
theorem Zsu {f ws:Nat->Int} {n word:Int} (hu:∀ i,i<16->f i=n->ws i ≠ word):∀ k,k<=16->find f ws n word k=none:=by
 intro k
 induction k with
 | zero=>intro _;rfl
 | succ k ih =>
  intro hk;exact Zhk (ih (by omega)) (fun h=>hu k (by omega) h.1 h.2)
theorem Zhu {f ws:Nat->Int} {b:ByteArray} {s:Nat} (hs:s<16) {N:Nat} (hN:f s=(N:Int))
 (hu:∀ i,i<16->f i=f s->ws i=ws s->i=s) (hp:∀ n:Nat,1<=n->n<N->∀ i,i<16->f i=(n:Int)->ws i ≠ ws s / 2 ^ (N - n)) :
 ∀ (d m n:Nat) (word:Int) (a:Nat),1<=n->n+d=N+1->1<=d->d<=m->a+d<=8*b.size->ws s / 2 ^ d=word->(∀ j,j<d->(ZI b (a+j):Int)=ws s / 2 ^ (d - 1 - j) % 2)->sgn f ws b m n word a=((s:Int),a+d):=by
 intro d
 induction d with
 | zero=>intro m n word a _ _ h;omega
 | succ d ih =>
  intro m n word a hn1 hn _ hm hb hw hj
  obtain ⟨m,rfl⟩:∃ j,m=j+1:=⟨m - 1,by omega⟩
  have hb0:=hj 0 (by omega);rw [Nat.add_zero,show d+1 - 1 - 0=d by omega] at hb0
  have hw1:2*word+(ZI b a:Int)=ws s / 2 ^ d:=by
   rw [Int.pow_succ,<-Int.ediv_ediv_of_nonneg (by have:=pow_pos d;omega)] at hw;omega
  by_cases h0:d=0
  ·subst h0;rw [Int.pow_zero,Int.ediv_one] at hw1;obtain rfl:n=N:=by omega
   refine ZdX (by omega) ?_;rw [hw1,fnd,Ztz hN rfl (fun i hi h1 h2=>hu i hi (by rw [h1,hN]) h2) 16 (nl _),if_pos hs]
  ·rw [ZdV (by omega) (by rw [hw1,fnd];exact Zsu (fun i hi h1=>by have:=hp n hn1 (by omega) i hi h1;rwa [show N - n=d by omega] at this) 16 (nl _)),hw1,show ((n:Int)+1)=((n+1:Nat):Int) by omega]
   rw [ih m (n+1) _ (a+1) (by omega) (by omega) (by omega) (by omega) (by omega) rfl (fun j hjd=>by
    have:=hj (j+1) (by omega);rw [show a+(j+1)=a+1+j by omega,show d+1 - 1 - (j+1)=d - 1 - j by omega] at this
    exact this),show a+1+d=a+(d+1) by omega]
theorem ZrY (f:Nat->Int) (n:Int) (x:Int × (Nat->Int)):∀ k,(∀ i,¬ (i<k/\f i=n)->(wI f n x k).2 i=x.2 i)/\(∀ i,i<k->f i=n->x.1<=(wI f n x k).2 i/\(wI f n x k).2 i<(wI f n x k).1)/\(∀ i j,i<j->j<k->f i=n->f j=n->(wI f n x k).2 i<(wI f n x k).2 j):=by
 intro k
 induction k with
 | zero=>exact ⟨fun i _=>rfl,fun i h=>by omega,fun i j _ h=>by omega⟩
 | succ k ih =>
  obtain ⟨i1,i2,i3⟩:=ih;have hb:=wI_b f n x k;rw [wI];by_cases h:f k=n
  ·rw [if_pos h];simp only;refine ⟨fun i hi=>?_,fun i hi hf=>?_,fun i j hij hj hf hg=>?_⟩
   ·have e:i ≠ k:=fun e=>hi ⟨by omega,by rw [e];exact h⟩
    rw [Zg _ _ e];exact i1 i (fun h9=>hi ⟨by omega,h9.2⟩)
   ·by_cases e:i=k
    ·subst e;rw [ZD];omega
    ·rw [Zg _ _ e];have:=i2 i (by omega) hf;omega
   ·rw [Zg _ _ (by omega)];by_cases e:j=k
    ·subst e;rw [ZD];have:=i2 i (by omega) hf;omega
    ·rw [Zg _ _ e];exact i3 i j hij (by omega) hf hg
  ·rw [if_neg h];refine ⟨fun i hi=>i1 i (fun h9=>hi ⟨by omega,h9.2⟩),fun i hi hf=>?_,fun i j hij hj hf hg=>?_⟩
   ·have e:i ≠ k:=fun e=>h (by rw [<-e];exact hf)
    exact i2 i (by omega) hf
   ·have e:j ≠ k:=fun e=>h (by rw [<-e];exact hg)
    exact i3 i j hij (by omega) hf hg
theorem Zsw (f:Nat->Int) (n:Nat):(wO f n).1*2<=(wO f (n+1)).1:=by
 rw [wO];exact (wI_b f _ _ 16).1
theorem Zsr (f:Nat->Int) (n:Nat):∀ j,(wO f n).1*2 ^ j<=(wO f (n+j)).1:=by
 intro j
 induction j with
 | zero=>simp
 | succ j ih =>
  have:=Zsw f (n+j);rw [<-Nat.add_assoc,Int.pow_succ,<-Int.mul_assoc];omega
theorem Zfx (f:Nat->Int) (i:Nat) (n:Nat) (hf:f i=((n+1:Nat):Int)):∀ j,(wO f (n+1+j)).2 i=(wO f (n+1)).2 i:=by
 intro j
 induction j with
 | zero=>rfl
 | succ j ih =>
  rw [<-Nat.add_assoc,wO,(ZrY f _ _ 16).1 i (fun h=>by omega)];exact ih
theorem Zms {f:Nat->Int} {i n:Nat} (hi:i<16) (hn:n+1<=15) (hf:f i=((n+1:Nat):Int)):(wO f n).1*2<=wds f i/\wds f i<(wO f (n+1)).1:=by
 have h:=Zfx f i n hf (15 - (n+1));rw [show n+1+(15 - (n+1))=15 by omega] at h;rw [wds,h,wO];exact (ZrY f _ _ 16).2.1 i hi hf
theorem ZnU {f:Nat->Int} {i j n:Nat} (hi:i<16) (hj:j<16) (hn:n+1<=15) (hf:f i=((n+1:Nat):Int)) (hg:f j=((n+1:Nat):Int)) (h:wds f i=wds f j):i=j:=by
 have h1:=Zfx f i n hf (15 - (n+1));have h2:=Zfx f j n hg (15 - (n+1));rw [show n+1+(15 - (n+1))=15 by omega] at h1 h2;rw [wds,h1,h2,wO] at h;have h3:=(ZrY f (n+1:Nat) ((wO f n).1*2,(wO f n).2) 16).2.2;rcases Nat.lt_trichotomy i j with h4 | h4 | h4
 ·have:=h3 i j h4 hj hf hg;omega
 ·exact h4
 ·have:=h3 j i h4 hi hg hf;omega
theorem Zjy {f:Nat->Int} {s N:Nat} (hs:s<16) (hN:f s=(N:Int)) (hN1:1<=N) (hN2:N<=15):∀ n:Nat,1<=n->n<N->∀ i,i<16->f i=(n:Int)->wds f i ≠ wds f s / 2 ^ (N - n):=by
 intro n hn1 hn i hi hf h
 obtain ⟨n,rfl⟩:∃ j,n=j+1:=⟨n - 1,by omega⟩
 obtain ⟨N,rfl⟩:∃ j,N=j+1:=⟨N - 1,by omega⟩
 have h1:=(Zms hi (by omega) hf).2;have h2:=(Zms hs (by omega) hN).1;have h3:=Zsr f (n+1) (N - (n+1));rw [show n+1+(N - (n+1))=N by omega] at h3;have hp:=pow_pos (N+1 - (n+1))
 have h4:(wO f (n+1)).1*2 ^ (N+1 - (n+1))<=wds f s:=by
  rw [show N+1 - (n+1)=(N - (n+1))+1 by omega,Int.pow_succ,<-Int.mul_assoc];omega
 have h5:(wO f (n+1)).1<=wds f s / 2 ^ (N+1 - (n+1)):=(Int.le_ediv_iff_mul_le (by omega)).2 h4;omega
theorem ZuW (f:Nat->Int) (n:Int) (x:Int × (Nat->Int)) (c:Int):∀ k,((wI f n x k).1 - x.1)*c=tot (fun i=>if f i=n then c else 0) k:=by
 intro k
 induction k with
 | zero=>simp [wI,tot]
 | succ k ih =>
  rw [wI,tot];by_cases h:f k=n
  ·rw [if_pos h,if_pos h,<-ih];simp only;rw [Int.sub_mul,Int.sub_mul,Int.add_mul];omega
  ·rw [if_neg h,if_neg h,ih];omega
theorem ZsU {g h:Nat->Int}:∀ k,tot (fun i=>g i+h i) k=tot g k+tot h k:=by
 intro k
 induction k with
 | zero=>rfl
 | succ k ih=>rw [tot,tot,tot,ih];omega
theorem Zkx {g h:Nat->Int}:∀ k,(∀ i,i<k->g i=h i)->tot g k=tot h k:=by
 intro k
 induction k with
 | zero=>intro _;rfl
 | succ k ih=>intro e;rw [tot,tot,ih (fun i hi=>e i (by omega)),e k (by omega)]
theorem Zpg {g h:Nat->Int}:∀ k,(∀ i,i<k->g i<=h i)->tot g k<=tot h k:=by
 intro k
 induction k with
 | zero=>intro _;exact Int.le_refl _
 | succ k ih=>intro e;rw [tot,tot];have:=e k (by omega);have:=ih (fun i hi=>e i (by omega));omega
theorem Zvf (f:Nat->Int):∀ k,sm f k=tot (fun i=>wt (f i)) k:=by
 intro k
 induction k with
 | zero=>rfl
 | succ k ih=>rw [sm,tot,ih]
theorem ZuC (f:Nat->Int) (hr:InR f 15 16):∀ n,n<=15->(wO f n).1*2 ^ (15 - n)=tot (fun i=>if f i<=(n:Int) then wt (f i) else 0) 16:=by
 intro n
 induction n with
 | zero =>
  intro _
  rw [Zkx (h:=fun _=>0) 16 (fun i hi=>by
   have:=hr i hi;by_cases h:f i<=((0:Nat):Int)
   ·rw [if_pos h,Zdg (by omega)]
   ·rw [if_neg h])]
  simp [wO,tot]
 | succ n ih =>
  intro hn;have h1:=ih (by omega);have h2:=ZuW f (n+1:Nat) ((wO f n).1*2,(wO f n).2) (2 ^ (15 - (n+1))) 16
  have h3:tot (fun i=>if f i<=((n+1:Nat):Int) then wt (f i) else 0) 16=tot (fun i=>(if f i<=(n:Int) then wt (f i) else 0)+(if f i=((n+1:Nat):Int) then 2 ^ (15 - (n+1)) else 0)) 16:=Zkx 16 (fun i hi=>by
   by_cases e1:f i<=(n:Int)
   ·rw [if_pos (by omega),if_pos e1,if_neg (by omega)];omega
   ·by_cases e2:f i=((n+1:Nat):Int)
    ·rw [if_pos (by omega),if_neg e1,if_pos e2,e2,Zft (by omega),show (15 - ((n+1:Nat):Int)).toNat=15 - (n+1) by omega];omega
    ·rw [if_neg (by omega),if_neg e1,if_neg e2];omega)
  have e9:wI f (n+1:Nat) ((wO f n).1*2,(wO f n).2) 16=wO f (n+1):=rfl;rw [e9] at h2;rw [h3,ZsU,<-h1,<-h2,Int.sub_mul,show 15 - n=(15 - (n+1))+1 by omega,Int.pow_succ,Int.mul_assoc,Int.mul_comm 2 (2 ^ (15 - (n+1)))];omega
theorem Zrx {f:Nat->Int} (h:chk f=0) {s N:Nat} (hs:s<16) (hN:f s=(N:Int)) (hN1:1<=N) (hN2:N<=15):wds f s<2 ^ N:=by
 obtain ⟨h1,_,h3⟩:=Zd h
 obtain ⟨N,rfl⟩:∃ j,N=j+1:=⟨N - 1,by omega⟩
 have h2:=(Zms hs (by omega) hN).2;have h4:=ZuC f h1 (N+1) hN2
 have h5:tot (fun i=>if f i<=((N+1:Nat):Int) then wt (f i) else 0) 16<=tot (fun i=>wt (f i)) 16:=Zpg 16 (fun i hi=>by
  have:=h1 i hi;by_cases e:f i<=((N+1:Nat):Int)
  ·rw [if_pos e];exact Int.le_refl _
  ·rw [if_neg e];exact (wt_b this.1 this.2).1)
 rw [<-Zvf] at h5;have h6:(32768:Int)=2 ^ (N+1)*2 ^ (15 - (N+1)):=by rw [<-Int.pow_add,show N+1+(15 - (N+1))=15 by omega];rfl
 have hp:=pow_pos (15 - (N+1));have h7:(wO f (N+1)).1*2 ^ (15 - (N+1))<=2 ^ (N+1)*2 ^ (15 - (N+1)):=by omega
 have h8:=Int.le_of_mul_le_mul_right h7 (by omega);omega
theorem Zvm (word:Int):∀ k j,j<k->(wb word k).getD j false=decide (word / 2 ^ (k - 1 - j) % 2=1):=by
 intro k
 induction k with
 | zero=>intro j h;omega
 | succ k ih =>
  intro j hj
  cases j with
  | zero=>rw [wb];rfl
  | succ j =>
   rw [wb];have:=ih j (by omega);rw [List.getD_cons_succ,this,show k+1 - 1 - (j+1)=k - 1 - j by omega]
theorem Zuw (word:Int) (k:Nat):(bv (decide (word / 2 ^ k % 2=1)):Int)=word / 2 ^ k % 2:=by
 unfold bv;by_cases h:word / 2 ^ k % 2=1
 ·simp [h]
 ·have:word / 2 ^ k % 2=0:=by omega
  simp [this]
theorem ZiO {xs ys:List Bool} {i:Nat} (h:i<xs.length):bq (xs++ys) i=bq xs i:=by
 simp [bq,List.getD_eq_getElem?_getD,List.getElem?_append_left h]
theorem Zgy {xs ys:List Bool} {i:Nat}:bq (xs++ys) (xs.length+i)=bq ys i:=by
 simp [bq,List.getD_eq_getElem?_getD,List.getElem?_append_right]
theorem ZpK (word:Int) {k j:Nat} (h:j<k):(bq (wb word k) j:Int)=word / 2 ^ (k - 1 - j) % 2:=by
 rw [bq,Zvm word k j h,Zuw]
theorem ZqU (bs:List Bool) {j:Nat} (h:j<(bs.length+7) / 8):at8 ⟨(pk bs).toArray⟩ j=byt bs j:=by
 unfold at8;simp only;rw [Zls bs h];have:=ZqW bs j;simp;omega
theorem ZlE (bs:List Bool) (j r:Nat) (hr:r<8):byt bs j / 2 ^ (7 - r) % 2=bq bs (8*j+r):=by
 have h0:=ZaI bs (8*j);have h1:=ZaI bs (8*j+1);have h2:=ZaI bs (8*j+2);have h3:=ZaI bs (8*j+3);have h4:=ZaI bs (8*j+4);have h5:=ZaI bs (8*j+5);have h6:=ZaI bs (8*j+6);have h7:=ZaI bs (8*j+7);unfold byt;obtain rfl | rfl | rfl | rfl | rfl | rfl | rfl | rfl:r=0\/r=1\/r=2\/r=3\/r=4\/r=5\/r=6\/r=7:=by omega
 all_goals
  simp only [Nat.add_zero,Nat.reduceSub,Nat.reducePow];omega
theorem Zup (bs:List Bool) {i:Nat} (h:i<8*((bs.length+7) / 8)):ZI ⟨(pk bs).toArray⟩ i=bq bs i:=by
 rw [ZI,ZqU bs (by omega),ZlE bs _ _ (by omega),show 8*(i / 8)+i % 8=i by omega]
theorem ZeP (bs:List Bool):(⟨(pk bs).toArray⟩:ByteArray).size=(bs.length+7) / 8:=by
 show (pk bs).toArray.size=_;simp [Zcd]
theorem ZrJ (bs:List Bool):end_ ⟨(pk bs).toArray⟩ bs.length=true:=by
 rw [end_,ZeP];by_cases h:bs.length % 8=0
 ·simp [h]
 ·rw [ZqU bs (by omega)];have hn:bs.length=8*(bs.length / 8)+bs.length % 8:=by omega
  have hm:=(Zib bs false (bs.length / 8) (bs.length % 8) (by omega) hn).2;have hr:bs.length % 8<8:=by omega
  generalize bs.length % 8=r at *;generalize byt bs (bs.length / 8)=x at *
  have:x*2 ^ r % 256=0:=by
   obtain rfl | rfl | rfl | rfl | rfl | rfl | rfl | rfl:r=0\/r=1\/r=2\/r=3\/r=4\/r=5\/r=6\/r=7:=by omega
   all_goals
    simp only [Nat.reduceSub,Nat.reducePow] at hm |-
    omega
  simp [this]
theorem Zhd {f:Nat->Int} (h:chk f=0) {s:Nat} (hs:s<16) (h0:f s ≠ 0) (pre post:List Bool):s15 f ⟨(pk (pre++cw f s++post)).toArray⟩ pre.length=((s:Int),(pre++cw f s).length):=by
 obtain ⟨h1,_,_⟩:=Zd h;have h2:=h1 s hs
 obtain ⟨N,hN⟩:∃ N:Nat,f s=(N:Int):=⟨(f s).toNat,by omega⟩
 have hl:(cw f s).length=N:=by rw [cw,ZdO,hN];rfl
 have hlt:=Zrx h hs hN (by omega) (by omega);have h9:=Znk f s;rw [s15,List.length_append,hl];refine Zhu hs hN (fun i hi e1 e2=>?_) (fun n hn1 hn i hi e1=>Zjy hs hN (by omega) (by omega) n hn1 hn i hi e1) N 15 1 0 _ (by omega) (by omega) (by omega) (by omega) ?_ (Int.ediv_eq_zero_of_lt h9.1 hlt) (fun j hj=>?_)
 ·exact ZnU (n:=N - 1) hi hs (by omega) (by omega) (by omega) e2
 ·rw [ZeP];simp only [List.length_append,hl];omega
 ·rw [Zup _ (by simp only [List.length_append,hl];omega),ZiO (by simp only [List.length_append,hl];omega),Zgy,cw,hN];exact ZpK _ hj
theorem ZrO {f:Nat->Int} {s t:ByteArray}:∀ k,(∀ i,i<k->at8 s i=at8 t i)->wrK f s k=wrK f t k:=by
 intro k
 induction k with
 | zero=>intro _;rfl
 | succ k ih=>intro h;rw [wrK,wrK,ih (fun i hi=>h i (by omega)),h k (by omega)]
theorem ZsR {f:Nat->Int} {s:ByteArray} {k:Nat}:∀ j bs,wrK f s (k+j)=some bs->∃ b1 b2,wrK f s k=some b1/\bs=b1++b2:=by
 intro j
 induction j with
 | zero=>intro bs h;exact ⟨bs,[],h,by simp⟩
 | succ j ih =>
  intro bs h;rw [<-Nat.add_assoc,wrK] at h
  cases hq:wrK f s (k+j) with
  | none=>rw [hq] at h;simp at h
  | some b3 =>
   rw [hq] at h;simp only at h;split at h
   ·simp at h
   ·simp only [Option.some.injEq] at h;obtain ⟨b1,b2,e1,e2⟩:=ih b3 hq;exact ⟨b1,b2++cw f (at8 s (k+j) / 16)++cw f (at8 s (k+j) % 16),e1,by rw [<-h,e2];simp⟩
theorem ZrA (s:ByteArray) (k:Nat):UInt8.ofNat (at8 s k)=s.data.toList[k]?.getD 0:=by
 unfold at8;exact UInt8.ofNat_toNat ..
theorem Zf (s:ByteArray):s.data.toList.length=s.size:=by cases s;simp only [Array.length_toList];rfl
theorem Ztf {f:Nat->Int} (h:chk f=0) {s:ByteArray} {bs:List Bool} (hw:wrK f s s.size=some bs):∀ k,k<=s.size->∃ b1 b2,wrK f s k=some b1/\bs=b1++b2/\rdK f ⟨(pk bs).toArray⟩ k=some (s.data.toList.take k,b1.length):=by
 intro k
 induction k with
 | zero=>intro _;exact ⟨[],bs,rfl,rfl,by simp [rdK]⟩
 | succ k ih =>
  intro hk;obtain ⟨b1,b2,e1,e2,e3⟩:=ih (by omega);obtain ⟨c1,c2,g1,g2⟩:=ZsR (k:=k+1) (s.size - (k+1)) bs (by rw [show k+1+(s.size - (k+1))=s.size by omega];exact hw);have g1':=g1;rw [wrK,e1] at g1;simp only at g1;split at g1
  ·simp at g1
  ·rename_i hz
   simp only [Option.some.injEq] at g1;have hl8:=ZaE s k;have r1:=Zhd h (s:=at8 s k / 16) (by omega) (fun e=>hz (.inl e)) b1 (cw f (at8 s k % 16)++c2);have r2:=Zhd h (s:=at8 s k % 16) (by omega) (fun e=>hz (.inr e)) (b1++cw f (at8 s k / 16)) c2;have eb:bs=b1++cw f (at8 s k / 16)++(cw f (at8 s k % 16)++c2):=by rw [g2,<-g1];simp
   have eb2:bs=b1++cw f (at8 s k / 16)++cw f (at8 s k % 16)++c2:=by rw [g2,<-g1]
   rw [<-eb] at r1;rw [<-eb2] at r2;refine ⟨c1,c2,g1',g2,?_⟩;rw [Zgg e3 r1 r2 (by omega),<-g1];have e16:(((at8 s k / 16:Nat):Int)*16+((at8 s k % 16:Nat):Int)).toNat=at8 s k:=by omega
   rw [e16,ZrA,List.take_add_one];have hkl:k<s.data.toList.length:=by rw [Zf];omega
   rw [List.getElem?_eq_getElem hkl];rfl
theorem Zud {f:Nat->Int} {s:ByteArray} (h:(wrt f s).2=0):rd f (wrt f s).1 (s.size:Nat)=(s,0):=by
 have hc:chk f=0:=by
  by_cases e:chk f=0
  ·exact e
  ·rw [wrt,if_pos e] at h;exact absurd h e
 have hs:¬ 1024<s.size:=by
  intro e;rw [wrt,if_neg (fun h=>h hc),if_pos e] at h;exact absurd h (by decide)
 cases hq:wrK f s s.size with
 | none=>rw [wrt,if_neg (fun h=>h hc),if_neg hs,hq] at h;exact absurd h (by decide)
 | some bs =>
  have e:(wrt f s).1=⟨(pk bs).toArray⟩:=by rw [wrt,if_neg (fun h=>h hc),if_neg hs,hq]
  obtain ⟨b1,b2,e1,e2,e3⟩:=Ztf hc hq s.size (Nat.le_refl _);rw [hq] at e1;simp only [Option.some.injEq] at e1;subst e1;rw [e,rd,if_neg (fun h=>h hc),if_neg (by omega),Int.toNat_natCast,e3];simp only;rw [if_pos (ZrJ bs),List.take_of_length_le (by rw [Zf];exact Nat.le_refl _)]
theorem Zuv {word:Int} {N:Nat} {bs:List Bool} {b:ByteArray} {a:Nat} (h:∀ j,j<N->(ZI b (a+j):Int)=word / 2 ^ (N - 1 - j) % 2) (hl:bs.length=a) (hb:∀ i,i<a->ZI b i=bq bs i):∀ i,i<a+N->ZI b i=bq (bs++wb word N) i:=by
 intro i hi;by_cases h1:i<a
 ·rw [ZiO (by omega)];exact hb i h1
 ·obtain ⟨j,rfl⟩:∃ j,i=a+j:=⟨i - a,by omega⟩
  have h2:=h j (by omega);rw [<-ZpK word (by omega:j<N)] at h2;have h3:bq (bs++wb word N) (bs.length+j)=bq (wb word N) j:=Zgy;rw [hl] at h3;omega
theorem Zkc {f:Nat->Int} {b:ByteArray} {a:Nat} (h:(s15 f b a).1 ≠ -1) {bs:List Bool} (hl:bs.length=a) (hb:∀ i,i<a->ZI b i=bq bs i) :
 ∃ s:Nat,s<16/\f s ≠ 0/\s15 f b a=((s:Int),(bs++cw f s).length)/\(bs++cw f s).length<=8*b.size/\∀ i,i<(bs++cw f s).length->ZI b i=bq (bs++cw f s) i:=by
 obtain ⟨s,d,e,hs,hf,hd,hm,hz,hw,hj⟩:=ZdT 15 1 0 a (nl _) h;have hfd:f s=(d:Int):=by omega
 have ec:cw f s=wb (wds f s) d:=by rw [cw,hfd];rfl
 have el:(bs++cw f s).length=a+d:=by rw [List.length_append,ec,ZdO,hl]
 refine ⟨s,hs,by omega,by rw [el];exact e,by rw [el];exact hz,?_⟩;rw [el,ec];exact Zuv hj hl hb
theorem Zgo {f:Nat->Int} {b:ByteArray}:∀ k o a,rdK f b k=some (o,a)->∃ bs,o.length=k/\bs.length=a/\a<=8*b.size/\wrK f ⟨o.toArray⟩ k=some bs/\∀ i,i<a->ZI b i=bq bs i:=by
 intro k
 induction k with
 | zero =>
  intro o a h;simp only [rdK,Option.some.injEq,Prod.mk.injEq] at h;obtain ⟨rfl,rfl⟩:=h;exact ⟨[],rfl,rfl,by omega,rfl,fun i h=>by omega⟩
 | succ k ih =>
  intro o a h;rw [rdK] at h
  cases hq:rdK f b k with
  | none=>rw [hq] at h;simp at h
  | some x =>
   obtain ⟨o1,a1⟩:=x;rw [hq] at h;simp only at h;split at h
   ·simp at h
   ·rename_i hne
    obtain ⟨bs,l1,l2,l3,e1,e2⟩:=ih o1 a1 hq;obtain ⟨s,hs,fs,es,zs,ts⟩:=Zkc (f:=f) (b:=b) (fun h9=>hne (.inl h9)) l2 e2;rw [es] at h hne;simp only at h hne;obtain ⟨t,ht,ft,et,zt,tt⟩:=Zkc (f:=f) (b:=b) (fun h9=>hne (.inr h9)) rfl ts;rw [et] at h;simp only [Option.some.injEq,Prod.mk.injEq] at h;obtain ⟨rfl,rfl⟩:=h
    have a8:at8 ⟨(o1++[UInt8.ofNat ((s:Int)*16+(t:Int)).toNat]).toArray⟩ k=16*s+t:=by
     unfold at8;simp only;rw [List.getElem?_append_right (by omega),l1,Nat.sub_self];simp;omega
    refine ⟨bs++cw f s++cw f t,by simp [l1],rfl,zt,?_,tt⟩
    rw [wrK,ZrO (t:=⟨o1.toArray⟩) k (fun i hi=>by
     unfold at8;simp only
     rw [List.getElem?_append_left (by omega)]),e1]
    simp only;rw [a8,show (16*s+t) / 16=s by omega,show (16*s+t) % 16=t by omega,if_neg (by omega)]
theorem Zhm (x:Nat) (hx:x<256):x=x / 2 ^ 7 % 2*128+x / 2 ^ 6 % 2*64+x / 2 ^ 5 % 2*32+x / 2 ^ 4 % 2*16+x / 2 ^ 3 % 2*8+x / 2 ^ 2 % 2*4+x / 2 ^ 1 % 2*2+x / 2 ^ 0 % 2:=by
 simp only [Nat.reducePow];omega
theorem ZaM (b:ByteArray) (j r:Nat) (hr:r<8):ZI b (8*j+r)=at8 b j / 2 ^ (7 - r) % 2:=by
 rw [ZI,show (8*j+r) / 8=j by omega,show (8*j+r) % 8=r by omega]
theorem ZsG {b:ByteArray} {bs:List Bool} {j:Nat} (h:∀ r,r<8->ZI b (8*j+r)=bq bs (8*j+r)):at8 b j=byt bs j:=by
 rw [Zhm _ (ZaE b j),byt,<-h 1 (by omega),<-h 2 (by omega),<-h 3 (by omega),<-h 4 (by omega),<-h 5 (by omega),<-h 6 (by omega),<-h 7 (by omega)];have h0:=h 0 (by omega);rw [Nat.add_zero] at h0;rw [<-h0];rw [ZaM b j 1 (by omega),ZaM b j 2 (by omega),ZaM b j 3 (by omega),ZaM b j 4 (by omega),ZaM b j 5 (by omega),ZaM b j 6 (by omega),ZaM b j 7 (by omega)];have:=ZaM b j 0 (by omega);rw [Nat.add_zero] at this;rw [this]
theorem Zjk {b:ByteArray} {bs:List Bool} {a:Nat} (hl:bs.length=a) (hb:∀ i,i<a->ZI b i=bq bs i) (he:end_ b a=true):b=⟨(pk bs).toArray⟩:=by
 rw [end_,Bool.and_eq_true,decide_eq_true_eq,Bool.or_eq_true,decide_eq_true_eq,decide_eq_true_eq] at he;obtain ⟨hsz,hz⟩:=he
 have zero:∀ i,a<=i->i<8*b.size->ZI b i=bq bs i:=by
  intro i h1 h2;rw [ZaZ bs (by omega)]
  have hz1:at8 b (a / 8)*2 ^ (a % 8) % 256=0:=by
   rcases hz with h | h
   ·omega
   ·exact h
  have hj:i / 8=a / 8:=by omega
  rw [ZI,hj];have hx:=ZaE b (a / 8);have hr:a % 8<=i % 8:=by omega
  have hr2:i % 8<8:=by omega
  generalize at8 b (a / 8)=x at *;generalize a % 8=r at *;generalize i % 8=q at *;obtain rfl | rfl | rfl | rfl | rfl | rfl | rfl | rfl:r=0\/r=1\/r=2\/r=3\/r=4\/r=5\/r=6\/r=7:=by omega
  all_goals
   obtain rfl | rfl | rfl | rfl | rfl | rfl | rfl | rfl:q=0\/q=1\/q=2\/q=3\/q=4\/q=5\/q=6\/q=7:=by omega
   all_goals
    simp only [Nat.reduceSub,Nat.reducePow] at *;omega
 have all:∀ j,j<b.size->at8 b j=byt bs j:=fun j hj=>ZsG (fun r hr=>by
  by_cases h:8*j+r<a
  ·exact hb _ h
  ·exact zero _ (by omega) (by omega))
 have hll:b.data.toList=pk bs:=by
  apply List.ext_getElem?;intro i;by_cases hi:i<b.size
  ·rw [Zls bs (by omega),<-all i hi,ZrA,List.getElem?_eq_getElem (by rw [Zf];exact hi)];rfl
  ·rw [List.getElem?_eq_none (by rw [Zf];omega),List.getElem?_eq_none (by rw [Zcd];omega)]
 cases b with
 | mk d =>
  simp only at hll;rw [<-hll]
theorem ZrC {f:Nat->Int} {b:ByteArray} {n:Int} (h:(rd f b n).2=0):wrt f (rd f b n).1=(b,0)/\((rd f b n).1.size:Int)=n:=by
 have hc:chk f=0:=by
  by_cases e:chk f=0
  ·exact e
  ·rw [rd,if_pos e] at h;exact absurd h e
 have hn:¬ (n<0\/1024<n):=by
  intro e;rw [rd,if_neg (fun h=>h hc),if_pos e] at h;simp at h
 cases hq:rdK f b n.toNat with
 | none=>rw [ZaX hc hn hq] at h;simp at h
 | some x =>
  obtain ⟨o,a⟩:=x;have e:=Zbz hc hn hq;by_cases he:end_ b a=true
  ·rw [if_pos he] at e;obtain ⟨bs,l1,l2,l3,e1,e2⟩:=Zgo _ o a hq;rw [e]
   have hso:(⟨o.toArray⟩:ByteArray).size=n.toNat:=by
    show o.toArray.size=_;simp [l1]
   refine ⟨?_,by simp only;rw [hso];omega⟩;simp only;rw [wrt,if_neg (fun h=>h hc),if_neg (by omega),hso,e1];simp only;rw [<-Zjk l2 e2 he]
  ·rw [if_neg he] at e;rw [e] at h;simp at h
end Go.Proofs.YtbjbjbpgmojcbabGreat.Cd
end Go.Proofs.YtbjbjbpgmojcbabGreat
