/- A part of the proof: what it leans on. -/
import Derived.Laws.BitsLemmas
import Derived.Maps.GroupsBeside
import Derived.Test.YtbjbjbpgmojcbacGreatLk05
set_option maxRecDepth 4000
set_option maxHeartbeats 2000000
namespace Go.Proofs.YtbjbjbpgmojcbacGreat
open Go.RowKit
namespace Cd
def wI (f:Nat->Int) (n:Int) (x:Int × (Nat->Int)):Nat->Int × (Nat->Int)
 | 0=>x
 | k+1=>if f k=n then ((wI f n x k).1+1,upd (wI f n x k).2 k (wI f n x k).1) else wI f n x k
def wO (f:Nat->Int):Nat->Int × (Nat->Int)
 | 0=>(0,fun _=>0)
 | n+1=>wI f (n+1:Nat) ((wO f n).1*2,(wO f n).2) 16
def wds (f:Nat->Int):Nat->Int:=(wO f 15).2
theorem wI_b (f:Nat->Int) (n:Int) (x:Int × (Nat->Int)):∀ k,x.1<=(wI f n x k).1/\(wI f n x k).1<=x.1+k:=by
 intro k
 induction k with
 | zero=>simp [wI]
 | succ k ih =>
  rw [wI];split
  ·simp only;omega
  ·omega
theorem wO_b (f:Nat->Int):∀ n,0<=(wO f n).1/\(wO f n).1<=16*(2 ^ n - 1):=by
 intro n
 induction n with
 | zero=>simp [wO]
 | succ n ih =>
  have:=wI_b f (n+1:Nat) ((wO f n).1*2,(wO f n).2) 16;simp only at this;rw [wO,Int.pow_succ];omega
theorem wO_c (f:Nat->Int) {n:Nat} (h:n<=15):0<=(wO f n).1/\(wO f n).1<=524288:=by
 have h1:=wO_b f n;have h2:(2:Int) ^ n<=2 ^ 15:=ZbL h;omega
end Cd
theorem Zcz (f:Nat->Int) (w:World) :
 Calls Tryz.prog 148 #[.agg (arr f)] w fun e w'=>e=.returned (.agg (arr (Cd.wds f)))/\Below w.heap.size w w':=by
 obtain ⟨R1,R2,R3,HB⟩:=Zod w f (fun _=>0);rw [<-Zk] at R1 R2 R3 HB;go_enter Tryz.func148,Tryz.ntmps148
 go_wp2_with fail
 rw [Zk] at R1 R2 R3 HB;rw [Zk];generalize ((w.alloc (.cells (arr f) 127)).alloc (.cells (arr fun _=>0) 127)).alloc (.cells (arr fun _=>0) 127)=w0 at *;have hq:Hid (w.heap.size<w.heap.size+1/\w.heap.size+1<w.heap.size+1+1/\w.heap.size<=w.heap.size):=by show _/\_/\_;omega
 obtain ⟨g1,hg1⟩:∃ g1,g1=w.heap.size:=⟨_,rfl⟩
 have hq1:Hid (g1<w.heap.size+1/\w.heap.size+1<w.heap.size+1+1/\w.heap.size<=g1):=by show _/\_/\_;omega
 generalize w.heap.size+1+1=g3 at *;generalize w.heap.size+1=g2 at *;clear hq hg1;go_loopw [4,5] (fun x i wr=>∃ (n:Nat) (N1:Int),n<=15/\i=.int .i64 N1/\Hid (N1=(n+1:Nat))/\x=.int .i64 (Cd.wO f n).1/\RowAt wr w.heap.size f/\RowAt wr g2 (fun _=>0)/\RowAt wr g3 (Cd.wO f n).2/\Below w.heap.size w wr) (fun _ i _=>20 - (intOf i).toNat)
 case atStart=>exact ⟨0,1,by omega,rfl,rfl,rfl,R1,R2,R3,HB⟩
 case round =>
  clear R1 R2 R3 HB;obtain ⟨n,N1,hn,rfl,HN1,rfl,R1,R2,R3,HB⟩:=hrel;have hb:=Cd.wO_c f hn;have hNb:1<=N1/\N1<=16:=by have:=HN1.out;omega
  by_cases hlt:n<15
  ·have hk1:decide (N1<=15)=true:=by have:=HN1.out;simp;omega
   have HE:Hid (Cd.wO f (n+1)=Cd.wI f N1 ((Cd.wO f n).1*2,(Cd.wO f n).2) 16):=by show _=_;rw [HN1.out];rfl
   have HNn:Hid (N1+1=(n+1+1:Nat)):=by have:=HN1.out;show _=_;omega
   generalize Cd.wO f n=V at *;obtain ⟨X,V⟩:=V;simp only at hb R3 HE;clear hn;go_wp2_with fail
   go_loopw [4,13] (fun x i wr=>∃ k:Nat,k<=16/\i=.int .i64 k/\x=.int .i64 (Cd.wI f N1 (X*2,V) k).1/\RowAt wr w.heap.size f/\RowAt wr g2 (fun _=>0)/\RowAt wr g3 (Cd.wI f N1 (X*2,V) k).2/\Below w.heap.size w wr) (fun _ i _=>16 - (intOf i).toNat)
   case atStart=>exact ⟨0,by omega,rfl,rfl,R1,R2,R3,HB⟩
   case round =>
    clear R1 R2 R3 HB;obtain ⟨k,hk,rfl,rfl,R1,R2,R3,HB⟩:=hrel;by_cases hlt2:k<16
    ·have hk2:decide ((k:Int)<16)=true:=by simp;omega
     have hk3:decide (k<16)=true:=by simp;omega
     have hc1:=R1.cell k hlt2;have hc3:=R3.cell k hlt2;have hf3:=R3.frozen k;have hbb:=Cd.wI_b f N1 (X*2,V) k;have hy0:0<=(Cd.wI f N1 (X*2,V) k).1:=by simp only at hbb;omega
     have hy1:(Cd.wI f N1 (X*2,V) k).1<=1048592:=by simp only at hbb;omega
     have R3':=R3.set k (Cd.wI f N1 (X*2,V) k).1;have R1':=R1.setFar (q:=g3) (by have:=hq1.out;omega) k (.int .i64 (Cd.wI f N1 (X*2,V) k).1);have R2':=R2.setFar (q:=g3) (by have:=hq1.out;omega) k (.int .i64 (Cd.wI f N1 (X*2,V) k).1);have HB':=HB.setCell (p:=⟨g3,k,none⟩) (by have:=hq1.out;show _<=g3;omega) (.int .i64 (Cd.wI f N1 (X*2,V) k).1);by_cases hx:f k=N1
     ·have d1:(f k == N1)=true:=by simpa using hx
      have HW:Hid (Cd.wI f N1 (X*2,V) (k+1)=((Cd.wI f N1 (X*2,V) k).1+1,upd (Cd.wI f N1 (X*2,V) k).2 k (Cd.wI f N1 (X*2,V) k).1)):=by show _=_;rw [Cd.wI,if_pos hx]
      generalize Cd.wI f N1 (X*2,V) k=U at *;generalize f k=z at *;clear hx hbb R1 R2 R3 HB hb;go_wp2_with fail
      go_roundw
      case rel=>exact ⟨k+1,by omega,by go_num,by rw [HW.out],R1',R2',by rw [HW.out];exact R3',HB'⟩
      case measure=>simp [intOf];omega
     ·have d1:(f k == N1)=false:=by simpa using hx
      have HW:Hid (Cd.wI f N1 (X*2,V) (k+1)=Cd.wI f N1 (X*2,V) k):=by show _=_;rw [Cd.wI,if_neg hx]
      generalize Cd.wI f N1 (X*2,V) k=U at *;generalize f k=z at *;clear hx hbb R1' R2' R3' HB' hb;go_wp2_with fail
      go_roundw
      case rel=>exact ⟨k+1,by omega,by go_num,by rw [HW.out],R1,R2,by rw [HW.out];exact R3,HB⟩
      case measure=>simp [intOf];omega
    ·obtain rfl:k=16:=by omega
     rw [<-HE.out] at R3;rw [<-HE.out];go_wp2_with fail
     go_roundw
     case rel=>exact ⟨n+1,N1+1,by omega,by go_num,HNn,rfl,R1,R2,R3,HB⟩
     case measure=>simp [intOf];omega
  ·obtain rfl:n=15:=by omega
   obtain rfl:N1=16:=by have:=HN1.out;omega
   have R3':RowAt wr g3 (Cd.wds f):=R3;have hi1:=Zb (Cd.wds f);clear R3;go_wp2_with (first | refine wpList_load_row rfl 127 _ rfl g3 rfl 127 (arr (Cd.wds f)) (0,0) _ R3'.2 U127 rfl hi1 ?_ | refine wpList_store_row rfl 127 _ _ rfl g2 (arr (Cd.wds f)) rfl rfl 127 _ R2.2 hi1 (by rw [Zh,Zh]) (ZV _) ?_)
   have U2:=R2.setRow (Cd.wds f);exact bodyPost_ret (v:=.agg (arr (Cd.wds f))) (results_cell_row Tryz.results148 _ _ g2 127 _ (0,0) _ rfl U2.2 U127 rfl hi1) rfl ⟨rfl,Zn HB (by have:=hq1.out;omega) _⟩
namespace Cd
def wb (word:Int):Nat->List Bool
 | 0=>[]
 | k+1=>decide (word / 2 ^ k % 2=1) :: wb word k
theorem Zdq (word:Int):∀ k,(wb word k).length=k:=by
 intro k
 induction k with
 | zero=>rfl
 | succ k ih=>simp [wb,ih]
def bv (b:Bool):Nat:=if b then 1 else 0
theorem ZsG (b:Bool):bv b<=1:=by cases b <;> decide
def bq (bs:List Bool) (i:Nat):Nat:=bv (bs.getD i false)
theorem ZaE (bs:List Bool) (i:Nat):bq bs i<=1:=ZsG _
theorem Zcr (bs:List Bool) (b:Bool) {i:Nat} (h:i<bs.length):bq (bs++[b]) i=bq bs i:=by
 simp [bq,List.getD_eq_getElem?_getD,List.getElem?_append_left h]
theorem ZtX (bs:List Bool) (b:Bool):bq (bs++[b]) bs.length=bv b:=by
 simp [bq,List.getD_eq_getElem?_getD]
theorem ZaU (bs:List Bool) {i:Nat} (h:bs.length<=i):bq bs i=0:=by
 simp [bq,List.getD_eq_getElem?_getD,List.getElem?_eq_none h,bv]
def byt (bs:List Bool) (j:Nat):Nat:=bq bs (8*j)*128+bq bs (8*j+1)*64+bq bs (8*j+2)*32+bq bs (8*j+3)*16+bq bs (8*j+4)*8+bq bs (8*j+5)*4+bq bs (8*j+6)*2+bq bs (8*j+7)
theorem ZqI (bs:List Bool) (j:Nat):byt bs j<256:=by
 have h0:=ZaE bs (8*j);have h1:=ZaE bs (8*j+1);have h2:=ZaE bs (8*j+2);have h3:=ZaE bs (8*j+3);have h4:=ZaE bs (8*j+4);have h5:=ZaE bs (8*j+5);have h6:=ZaE bs (8*j+6);have h7:=ZaE bs (8*j+7);unfold byt;omega
theorem ZrY (bs:List Bool) {j:Nat} (h:bs.length<=8*j):byt bs j=0:=by
 unfold byt;rw [ZaU bs (by omega),ZaU bs (by omega),ZaU bs (by omega),ZaU bs (by omega),ZaU bs (by omega),ZaU bs (by omega),ZaU bs (by omega),ZaU bs (by omega)]
theorem ZrZ (bs:List Bool) (b:Bool) {j:Nat} (h:8*j+7<bs.length):byt (bs++[b]) j=byt bs j:=by
 unfold byt;rw [Zcr bs b (by omega),Zcr bs b (by omega),Zcr bs b (by omega),Zcr bs b (by omega),Zcr bs b (by omega),Zcr bs b (by omega),Zcr bs b (by omega),Zcr bs b (by omega)]
theorem ZtN (bs:List Bool) (b:Bool) (i:Nat):bq (bs++[b]) i=bq bs i+(if i=bs.length then bv b else 0):=by
 by_cases h:i<bs.length
 ·rw [Zcr bs b h,if_neg (by omega)];omega
 ·by_cases h1:i=bs.length
  ·subst h1;rw [ZtX,if_pos rfl,ZaU bs (Nat.le_refl _)];omega
  ·rw [if_neg h1,ZaU (bs++[b]) (by simp;omega),ZaU bs (by omega)]
theorem Zis (bs:List Bool) (b:Bool) (j r:Nat) (hr:r<8) (hn:bs.length=8*j+r):byt (bs++[b]) j=byt bs j+bv b*2 ^ (7 - r)/\byt bs j % 2 ^ (8 - r)=0:=by
 have hb:=ZsG b;unfold byt;simp only [ZtN];rw [hn];obtain rfl | rfl | rfl | rfl | rfl | rfl | rfl | rfl:r=0\/r=1\/r=2\/r=3\/r=4\/r=5\/r=6\/r=7:=by omega
 all_goals
  have f0:=ZaE bs (8*j);have f1:=ZaE bs (8*j+1);have f2:=ZaE bs (8*j+2);have f3:=ZaE bs (8*j+3);have f4:=ZaE bs (8*j+4);have f5:=ZaE bs (8*j+5);have f6:=ZaE bs (8*j+6);have z:∀ i,bs.length<=i->bq bs i=0:=fun i h=>ZaU bs h
  have z0:=z (8*j);have z1:=z (8*j+1);have z2:=z (8*j+2);have z3:=z (8*j+3);have z4:=z (8*j+4);have z5:=z (8*j+5);have z6:=z (8*j+6);have z7:=z (8*j+7);constructor
  ·repeat (first | rw [if_pos (by omega)] | rw [if_neg (by omega)])
   omega
  ·omega
def pk (bs:List Bool):List UInt8:=(List.range ((bs.length+7) / 8)).map fun j=>UInt8.ofNat (byt bs j)
theorem ZbY (bs:List Bool):(pk bs).length=(bs.length+7) / 8:=by simp [pk]
theorem Zkj (bs:List Bool) {j:Nat} (h:j<(bs.length+7) / 8):(pk bs)[j]?=some (UInt8.ofNat (byt bs j)):=by simp [pk,h]
def pk1 (bs:List Bool):List UInt8:=if bs.length % 8=0 then pk bs++[0] else pk bs
theorem Zia (bs:List Bool):(pk1 bs).length=bs.length / 8+1:=by
 unfold pk1;split
 ·rw [List.length_append,ZbY];simp;omega
 ·rw [ZbY];omega
theorem ZqK (bs:List Bool) {j:Nat} (h:j<bs.length / 8+1):(pk1 bs)[j]?=some (UInt8.ofNat (byt bs j)):=by
 unfold pk1;split
 ·rename_i h0
  by_cases hj:j<bs.length / 8
  ·rw [List.getElem?_append_left (by rw [ZbY];omega),Zkj bs (by omega)]
  ·rw [List.getElem?_append_right (by rw [ZbY];omega),ZbY,ZrY bs (by omega),show j - (bs.length+7) / 8=0 by omega];rfl
 ·rw [Zkj bs (by omega)]
theorem ZsM (bs:List Bool) (b:Bool):pk (bs++[b])=(pk1 bs).set (bs.length / 8) (UInt8.ofNat (byt bs (bs.length / 8)+bv b*2 ^ (7 - bs.length % 8))):=by
 have hn:bs.length=8*(bs.length / 8)+bs.length % 8:=by omega
 have hb:=Zis bs b (bs.length / 8) (bs.length % 8) (by omega) hn;apply List.ext_getElem?;intro i;have hl:((bs++[b]).length+7) / 8=bs.length / 8+1:=by simp;omega
 by_cases hi:i<bs.length / 8+1
 ·rw [Zkj _ (by omega),List.getElem?_set];by_cases h1:bs.length / 8=i
  ·rw [if_pos h1,if_pos (by rw [Zia];omega),<-h1,hb.1]
  ·rw [if_neg h1,ZqK bs hi,ZrZ bs b (by omega)]
 ·rw [List.getElem?_eq_none (by rw [ZbY];omega),List.getElem?_eq_none (by rw [List.length_set,Zia];omega)]
end Cd
theorem Zqi {word:Int} {K:Int} {k:Nat} (h0:0<=word) (h1:word<=1048576) (hK:K=k):bits BinOp.and IntKind.i64 (word / 2 ^ K.toNat) 1 % 256=(Cd.bv (decide (word / 2 ^ k % 2=1)):Nat):=by
 subst hK;rw [Int.toNat_natCast];have hp:=Cd.pow_pos k;have h2:0<=word / 2 ^ k:=Int.ediv_nonneg h0 (by omega);have h3:word / 2 ^ k<=word:=Int.ediv_le_self _ h0;have h:=bits_mask .i64 63 (by decide) (fun n a b=>by rw [IntKind.wrap_i64];omega) 1 (by decide) (word / 2 ^ k) h2 (by omega);have e:((2:Int) ^ 1 - 1)=1:=by decide
 have e2:((2:Int) ^ 1)=2:=by decide
 rw [e,e2] at h;rw [h];generalize word / 2 ^ k=x at *;by_cases hx:x % 2=1
 ·simp [hx,Cd.bv]
 ·have:x % 2=0:=by omega
  simp [this,Cd.bv]
theorem Zmz {x r:Nat} {b:Bool} (hr:r<8) (hx:x<256) (hm:x % 2 ^ (8 - r)=0):bits BinOp.or IntKind.u8 (x:Int) ((Cd.bv b:Nat)*2 ^ (7 - r) % 256)=((x+Cd.bv b*2 ^ (7 - r):Nat):Int)/\x+Cd.bv b*2 ^ (7 - r)<256:=by
 have hb:=Cd.ZsG b
 have hlt:Cd.bv b*2 ^ (7 - r)<2 ^ (8 - r):=by
  have h1:2 ^ (8 - r)=2*2 ^ (7 - r):=by rw [show 8 - r=(7 - r)+1 by omega,Nat.pow_succ];omega
  have h2:0<2 ^ (7 - r):=Nat.pow_pos (by omega);rcases Nat.le_one_iff_eq_zero_or_eq_one.1 hb with h | h <;> rw [h] <;> omega
 have hle:2 ^ (8 - r)<=2 ^ 8:=Nat.pow_le_pow_right (by omega) (by omega)
 have hsum:x+Cd.bv b*2 ^ (7 - r)<256:=by
  have hd:2 ^ (8 - r) ∣ 256:=by
   refine ⟨2 ^ r,?_⟩;rw [<-Nat.pow_add,show 8 - r+r=8 by omega]
  obtain ⟨q,hq⟩:=hd;have hxq:x=2 ^ (8 - r)*(x / 2 ^ (8 - r)):=by have:=Nat.div_add_mod x (2 ^ (8 - r));omega
  have hlt2:x / 2 ^ (8 - r)<q:=by
   apply Nat.lt_of_mul_lt_mul_left (a:=2 ^ (8 - r));omega
  have:2 ^ (8 - r)*(x / 2 ^ (8 - r)+1)<=2 ^ (8 - r)*q:=Nat.mul_le_mul_left _ hlt2;rw [Nat.mul_add,Nat.mul_one] at this;omega
 refine ⟨?_,hsum⟩
 have e:((Cd.bv b:Nat):Int)*2 ^ (7 - r) % 256=((Cd.bv b*2 ^ (7 - r):Nat):Int):=by
  have:((Cd.bv b:Nat):Int)*2 ^ (7 - r)=((Cd.bv b*2 ^ (7 - r):Nat):Int):=by push_cast;rfl
  rw [this];have:2 ^ (8 - r)<=256:=hle;omega
 rw [e];have h:=(bits_nat .u8 8 (by decide) wraps_u8 x (Cd.bv b*2 ^ (7 - r)) (by omega) (by omega)).2;rw [h];have hxq:x=2 ^ (8 - r)*(x / 2 ^ (8 - r)):=by have:=Nat.div_add_mod x (2 ^ (8 - r));omega
 have h2:=Nat.two_pow_add_eq_or_of_lt hlt (x / 2 ^ (8 - r));rw [<-hxq] at h2;rw [<-h2]
theorem Zju {w:World} {B:Nat} {v:Value} {l:List UInt8} (h:w.ownsRow B 5 1 v l.length (bcs l)) (hl:l ≠ []):∃ g cap,v=.slice (some ⟨g,0,none⟩) l.length cap/\B<=g/\g<w.heap.size ∧
 (∀ j b,l[j]?=some b->w.cell? ⟨g,j,none⟩=some (.int .u8 (b.toNat:Int)))/\(∀ j,w.frozen? ⟨g,j,none⟩=false) ∧
 (∀ j b,j<l.length->(w.setCell ⟨g,j,none⟩ (.int .u8 (UInt8.toNat b:Int))).ownsRow B 5 1 v (l.set j b).length (bcs (l.set j b))):=by
 have hlen:=h.1;rcases h.2 with ⟨_,h0⟩ | ⟨g,cap,cur,rfl,hb,hg,hnc,hcm,hcs,htk⟩
 ·exact absurd (List.eq_nil_of_length_eq_zero h0) hl
 ·rw [Nat.mul_one] at htk hcs;refine ⟨g,cap,rfl,hb,(aG.1 hg).1,?_,fun j=>by simp [World.frozen?,hg],?_⟩
  ·intro j b hj;have hj2:j<l.length:=(List.getElem?_eq_some_iff.1 hj).1;rw [cell_of_row w g j cur _ _ hg]
   have:(cur.toList.take l.length)[j]?=some (.int .u8 (b.toNat:Int)):=by
    rw [htk];simp [bcs,hj]
   rw [List.getElem?_take,if_pos hj2] at this;simpa using this
  ·intro j b hj
   have hg2:(w.setCell ⟨g,j,none⟩ (.int .u8 (b.toNat:Int))).heap[g]?=some (.cells (cur.setIfInBounds j (.int .u8 (b.toNat:Int))) 5 (0,0)):=by
    show (w.heap.modify g _)[g]?=_;rw [Array.getElem?_modify,if_pos rfl,hg];rfl
   refine ⟨by rw [Zab];omega,.inr ⟨g,cap,_,by rw [List.length_set],hb,hg2,by rw [List.length_set];exact hnc,hcm,by simp;omega,?_⟩⟩;rw [List.length_set,Nat.mul_one,Array.toList_setIfInBounds,List.take_set,htk];simp [bcs]
def BitsAt (w:World) (gb:Nat) (bs:List Bool):Prop:=gb<w.heap.size/\∃ v,w.heap[gb]?=some (.cells #[v,.int .i64 (bs.length:Nat)] 177 (0,0))/\w.ownsRow (gb+1) 5 1 v (Cd.pk bs).length (bcs (Cd.pk bs))
end Go.Proofs.YtbjbjbpgmojcbacGreat
namespace Go.Proofs.YtbjbjbpgmojcbacGreat.Tk
def alk (l:List UInt8):Nat->Nat->Nat->Nat
 | _,_,0=>0
 | a,b,m+1=>if l[a]?=l[b]? then alk l (a+1) (b+1) m+1 else 0
theorem ZjT (l:List UInt8):∀ (m a b:Nat),alk l a b m<=m:=by
 intro m
 induction m with
 | zero=>intro a b;simp [alk]
 | succ m ih =>
  intro a b;rw [alk];split
  ·have:=ih (a+1) (b+1);omega
  ·omega
theorem Zgx (l:List UInt8):∀ (m a b n:Nat),n<=m->(∀ j,j<n->l[a+j]?=l[b+j]?)->(n=m\/l[a+n]? ≠ l[b+n]?)->alk l a b m=n:=by
 intro m
 induction m with
 | zero=>intro a b n h1 _ _;simp [alk];omega
 | succ m ih =>
  intro a b n h1 h2 h3;rw [alk]
  cases n with
  | zero =>
   rcases h3 with h | h
   ·omega
   ·rw [if_neg (by simpa using h)]
  | succ n =>
   have h0:=h2 0 (by omega);rw [if_pos (by simpa using h0),ih (a+1) (b+1) n (by omega)]
   ·intro j hj;have:=h2 (j+1) (by omega)
    rwa [show a+(j+1)=a+1+j by omega,show b+(j+1)=b+1+j by omega] at this
   ·rcases h3 with h | h
    ·left;omega
    ·right
     rwa [show a+(n+1)=a+1+n by omega,show b+(n+1)=b+1+n by omega] at h
theorem Zjh (l:List UInt8):∀ (m a b j:Nat),j<alk l a b m->l[a+j]?=l[b+j]?:=by
 intro m
 induction m with
 | zero=>intro a b j h;simp [alk] at h
 | succ m ih =>
  intro a b j h;rw [alk] at h;split at h
  ·rename_i he
   cases j with
   | zero=>simpa using he
   | succ j =>
    have:=ih (a+1) (b+1) j (by omega)
    rwa [show a+(j+1)=a+1+j by omega,show b+(j+1)=b+1+j by omega]
  ·omega
end Go.Proofs.YtbjbjbpgmojcbacGreat.Tk
namespace Go.Proofs.YtbjbjbpgmojcbacGreat.Tk
def win (l:List UInt8) (i:Nat):List UInt8:=(l.drop i).take 3
def plc (l k:List UInt8) (r:Nat):List Nat:=(List.range r).filter (fun p=>win l p == k)
theorem Zox (l k:List UInt8) (r:Nat):plc l k (r+1)=plc l k r++(if win l r=k then [r] else []):=by
 unfold plc;rw [List.range_succ,List.filter_append]
 congr 1
 by_cases h:win l r=k
 ·simp [h]
 ·simp [h]
theorem ZtR {l k:List UInt8} {r p:Nat} (h:p ∈ plc l k r):p<r:=by
 unfold plc at h;exact List.mem_range.1 (List.mem_filter.1 h).1
theorem Zsi (l k:List UInt8) (r:Nat):(plc l k r).length<=r:=by
 unfold plc;exact nt (List.length_filter_le _ _) (by simp)
def stp (l:List UInt8) (a m:Nat) (b:Nat × Nat) (p:Nat):Nat × Nat:=if b.2<alk l p a m then (a - p,alk l p a m) else b
theorem ZoL {l:List UInt8} {a m:Nat} {b:Nat × Nat} (h:m<=b.2) (p:Nat):stp l a m b p=b:=by
 unfold stp;have:=ZjT l m p a;rw [if_neg (by omega)]
theorem Zog {l:List UInt8} {a m:Nat} {b:Nat × Nat} (h:m<=b.2):∀ L:List Nat,L.foldl (stp l a m) b=b:=by
 intro L
 induction L with
 | nil=>rfl
 | cons p L ih=>rw [List.foldl_cons,ZoL h,ih]
theorem ZtY (l:List UInt8):∀ (m a b n:Nat),n<=m->(∀ j,j<n->l[a+j]?=l[b+j]?)->n<=alk l a b m:=by
 intro m
 induction m with
 | zero=>intro a b n h _;omega
 | succ m ih =>
  intro a b n h hj
  cases n with
  | zero=>omega
  | succ n =>
   rw [alk,if_pos (by simpa using hj 0 (by omega))]
   have:=ih (a+1) (b+1) n (by omega) (fun j h2=>by
    have:=hj (j+1) (by omega)
    rwa [show a+(j+1)=a+1+j by omega,show b+(j+1)=b+1+j by omega] at this)
   omega
theorem ZjI (l:List UInt8) (i j:Nat):(win l i)[j]?=if j<3 then l[i+j]? else none:=by
 unfold win;rw [List.getElem?_take];split
 ·rw [List.getElem?_drop]
 ·rfl
theorem Znf {l:List UInt8} {p a m:Nat} (hm:3<=m):win l p=win l a ↔ 3<=alk l p a m:=by
 constructor
 ·intro h;refine ZtY l m p a 3 hm (fun j hj=>?_);have h1:=ZjI l p j;have h2:=ZjI l a j;rw [if_pos hj] at h1 h2;rw [<-h1,<-h2,h]
 ·intro h;apply List.ext_getElem?;intro j;rw [ZjI,ZjI];split
  ·exact Zjh l m p a j (by omega)
  ·rfl
theorem ZiF (l:List UInt8) (a m:Nat) (hm:3<=m):∀ (L:List Nat) (b b':Nat × Nat),((b.2<3/\b'=(0,0))\/(3<=b.2/\b'=b)) →
 (((L.foldl (stp l a m) b).2<3/\(L.filter (fun p=>win l p == win l a)).foldl (stp l a m) b'=(0,0))\/(3<=(L.foldl (stp l a m) b).2/\(L.filter (fun p=>win l p == win l a)).foldl (stp l a m) b'=L.foldl (stp l a m) b)):=by
 intro L
 induction L with
 | nil=>intro b b' h;simpa using h
 | cons p L ih =>
  intro b b' h;rw [List.foldl_cons,List.filter_cons];by_cases hw:win l p=win l a
  ·have hk:=(Znf (l:=l) (p:=p) (a:=a) hm).1 hw;rw [if_pos (by simpa using hw),List.foldl_cons];apply ih;rcases h with ⟨h1,rfl⟩ | ⟨h1,rfl⟩
   ·right
    unfold stp;rw [if_pos (by omega),if_pos (by simp;omega)];exact ⟨hk,rfl⟩
   ·right
    refine ⟨?_,rfl⟩;unfold stp;split
    ·exact hk
    ·exact h1
  ·have hk:¬ 3<=alk l p a m:=fun e=>hw ((Znf hm).2 e)
   rw [if_neg (by simpa using hw)];apply ih;rcases h with ⟨h1,rfl⟩ | ⟨h1,rfl⟩
   ·left
    refine ⟨?_,rfl⟩;unfold stp;split
    ·show alk l p a m<3;omega
    ·exact h1
   ·right
    unfold stp;rw [if_neg (by omega)];exact ⟨h1,rfl⟩
def most (l:List UInt8) (a:Nat):Nat:=min 64 (l.length - a)
def bst (l:List UInt8) (a:Nat):Nat × Nat:=(List.range a).reverse.foldl (stp l a (most l a)) (0,0)
def lng (l:List UInt8) (a:Nat):Nat × Nat:=if most l a<3 then (0,0) else (plc l (win l a) a).reverse.foldl (stp l a (most l a)) (0,0)
theorem Zrt (l:List UInt8) (a m:Nat):∀ (L:List Nat) (b:Nat × Nat),(∀ p ∈ L,p<a)->b.2<=m->(b=(0,0)\/(1<=b.1/\b.1<=a/\1<=b.2/\b.2=alk l (a - b.1) a m)) →
 (L.foldl (stp l a m) b).2<=m/\(L.foldl (stp l a m) b=(0,0)\/(1<=(L.foldl (stp l a m) b).1/\(L.foldl (stp l a m) b).1<=a/\1<=(L.foldl (stp l a m) b).2/\(L.foldl (stp l a m) b).2=alk l (a - (L.foldl (stp l a m) b).1) a m)):=by
 intro L
 induction L with
 | nil=>intro b _ h1 h2;exact ⟨h1,h2⟩
 | cons p L ih =>
  intro b hL h1 h2;have hp:=hL p (by simp);rw [List.foldl_cons];apply ih _ (fun q hq=>hL q (by simp [hq]))
  ·unfold stp;split
   ·exact ZjT l m p a
   ·exact h1
  ·unfold stp;split
   ·right
    rename_i h
    refine ⟨by simp;omega,by simp,by simp;omega,?_⟩;show alk l p a m=alk l (a - (a - p)) a m;rw [show a - (a - p)=p by omega]
   ·exact h2
theorem ZiY (l:List UInt8) (a:Nat):(bst l a).2<=most l a/\(bst l a=(0,0)\/(1<=(bst l a).1/\(bst l a).1<=a/\1<=(bst l a).2/\(bst l a).2=alk l (a - (bst l a).1) a (most l a))):=by
 unfold bst;exact Zrt l a _ _ _ (fun p hp=>by simpa using hp) (by simp) (Or.inl rfl)
theorem Zsm (l:List UInt8) (a:Nat):((bst l a).2<3/\lng l a=(0,0))\/(3<=(bst l a).2/\lng l a=bst l a):=by
 have hb:=(ZiY l a).1;unfold lng;by_cases h:most l a<3
 ·rw [if_pos h]
  left
  exact ⟨by omega,rfl⟩
 ·rw [if_neg h];unfold plc bst;rw [<-List.filter_reverse];exact ZiF l a _ (by omega) _ _ _ (Or.inl ⟨by simp,rfl⟩)
def lay (s:ByteArray) (f a:Nat):List T:=if f<a then [⟨s.extract f a,0,0⟩] else []
def prs (s:ByteArray):Nat->Nat->Nat->List T
 | 0,a,f=>lay s f a
 | n+1,a,f=>if a<s.size then (if (bst s.data.toList a).2<3 then prs s n (a+1) f else lay s f a++⟨⟨#[]⟩,((bst s.data.toList a).1:Nat),((bst s.data.toList a).2:Nat)⟩ :: prs s n (a+(bst s.data.toList a).2) (a+(bst s.data.toList a).2)) else lay s f a
theorem Zov (s:ByteArray):∀ (n k a f:Nat),s.size - a<=n->s.size - a<=k->prs s n a f=prs s k a f:=by
 intro n
 induction n with
 | zero =>
  intro k a f h _
  cases k with
  | zero=>rfl
  | succ k=>rw [prs,prs,if_neg (by omega)]
 | succ n ih =>
  intro k a f h1 h2
  cases k with
  | zero=>rw [prs,prs,if_neg (by omega)]
  | succ k =>
   rw [prs,prs];by_cases ha:a<s.size
   ·rw [if_pos ha,if_pos ha];by_cases hb:(bst s.data.toList a).2<3
    ·rw [if_pos hb,if_pos hb,ih k (a+1) f (by omega) (by omega)]
    ·rw [if_neg hb,if_neg hb,ih k _ _ (by omega) (by omega)]
   ·rw [if_neg ha,if_neg ha]
def P (s:ByteArray) (a f:Nat):List T:=prs s (s.size - a) a f
theorem ZsW {s:ByteArray} {a f:Nat} (h:s.size<=a):P s a f=lay s f a:=by
 unfold P;rw [show s.size - a=0 by omega,prs]
theorem Zsx {s:ByteArray} {a f:Nat} (h:a<s.size) (hb:(bst s.data.toList a).2<3):P s a f=P s (a+1) f:=by
 unfold P;rw [show s.size - a=(s.size - (a+1))+1 by omega,prs,if_pos h,if_pos hb]
theorem Znj {s:ByteArray} {a f:Nat} (h:a<s.size) (hb:¬ (bst s.data.toList a).2<3):P s a f=lay s f a++⟨⟨#[]⟩,((bst s.data.toList a).1:Nat),((bst s.data.toList a).2:Nat)⟩ :: P s (a+(bst s.data.toList a).2) (a+(bst s.data.toList a).2):=by
 unfold P;rw [show s.size - a=(s.size - (a+1))+1 by omega,prs,if_pos h,if_neg hb];rw [Zov s (s.size - (a+1)) (s.size - (a+(bst s.data.toList a).2)) _ _ (by omega) (by omega)]
end Go.Proofs.YtbjbjbpgmojcbacGreat.Tk
namespace Go.Proofs.YtbjbjbpgmojcbacGreat
open Go.RowKit Go.Maps Go.WideElems Go.ChangeShapes
open Go.WideMaps (keyOf_string_mk)
theorem slaw:Keyed Tryz.prog 9:=string_keyed Tryz.underlying9
theorem Zbs (w:World):(zeroValue 24).run Tryz.prog w=.ok (.slice none 0 0) w:=by kernel_rfl
theorem skey (k:ByteArray) (h:k.size<=maxLen):keyOf Tryz.prog 9 (.string k)=some (.string k.data.toList):=keyOf_string_mk Tryz.underlying9 h
def Znv:DataW Value->List (DataW Value)
 | .slice es _=>es
 | _=>[]
def ZkL (D:DataW Value) (s:ByteArray) (r:Nat):Prop:=∀ k:List UInt8,Znv (D.atKey (.string k) .nil)=lits .i64 ((Tk.plc s.data.toList k r).map (fun p:Nat=>(p:Int)))
theorem ZjH:∀ {a b:List Int},lits (H:=Value) .i64 a=lits .i64 b->a=b:=by
 intro a
 induction a with
 | nil=>intro b h;cases b with
  | nil=>rfl
  | cons x b=>simp [lits] at h
 | cons x a ih=>intro b h;cases b with
  | nil=>simp [lits] at h
  | cons y b =>
   simp only [lits,List.map_cons,List.cons.injEq,DataW.lit.injEq,Lit.int.injEq,true_and] at h;rw [h.1,ih (by unfold lits;exact h.2)]
theorem ZeB {w:World} {base:Nat} {v:Value} {zs:List Int} (h:w.ownsInts base 3 .i64 v zs):Znv (rowDatum .i64 v zs)=lits .i64 zs:=by
 rcases h.datum (H:=Value) with ⟨h1,rfl⟩ | h1
 ·rw [h1];rfl
 ·rw [h1];rfl
theorem Zhj {P:Program} {k E t:TypeId} {w w':World} {b:Nat} {R:Value->Option (DataW Value × List MemPlace)} {es:Array MapEntry} {clock:Nat} {z key v:Value} {kl:Lit} (K:Keyed P k) (ht:P.underlying t=some (.map k E))
 (hz:(zeroValue E).run P w=.ok z w) (hz':(zeroValue E).run P w'=.ok z w') (hb:w.heap[b]?=some (.map es clock)) (hb':w'.heap[b]?=w.heap[b]?) (F:Fit P k R es clock) (hkey:keyOf P k key=some kl)
 (h:(Instr.lookup t (.map (some b)) key false).run P w=.ok v w):(Instr.lookup t (.map (some b)) key false).run P w'=.ok v w':=by
 have F0:Fit P k (fun v=>some ((.held v:DataW Value),([]:List MemPlace))) es clock:=⟨F.size,F.stamped,fun x hx=>by
  obtain ⟨y,hy⟩:=F.reads x hx
  exact ⟨(y.1,.held x.val),by simp [rd,rd_key hy]⟩⟩
 rw [hb] at hb';rcases fit_look false K ht hz hb F0 hkey with ⟨r1,_,a1⟩ | ⟨e1,y1,_,_,r1,y1e,a1,_⟩ <;> rcases fit_look false K ht hz' hb' F0 hkey with ⟨r2,_,a2⟩ | ⟨e2,y2,_,_,r2,y2e,a2,_⟩
 ·rw [r1] at h;rw [r2];simp at h |-
  exact h
 ·exfalso
  have:=(a1 .nil).symm.trans (a2 .nil);have h2:=(a1 (.agg [])).symm.trans (a2 (.agg []));rw [<-this] at h2
  cases h2
 ·exfalso
  have:=(a2 .nil).symm.trans (a1 .nil);have h2:=(a2 (.agg [])).symm.trans (a1 (.agg []));rw [<-this] at h2
  cases h2
 ·rw [r1] at h;rw [r2];simp at h y1e y2e |-
  have:=(a1 .nil).symm.trans (a2 .nil);rw [<-y1e,<-y2e] at this;simp at this;rw [<-this,h]
structure PastAt (w:World) (base gp bm:Nat) (No:Nat->Prop) (s:ByteArray) (r:Nat):Prop where
 c0:w.cell? ⟨gp,0,none⟩=some (.string s)
 c1:w.cell? ⟨gp,1,none⟩=some (.map (some bm))
 c2:w.cell? ⟨gp,2,none⟩=some (.int .i64 (r:Nat))
 f2:w.frozen? ⟨gp,2,none⟩=false
 gb:gp<base
 ne:gp ≠ bm
 bs:base<=w.heap.size
 map:∃ D:DataW Value,IsMap D/\w.ownsGroups Tryz.prog 9 base 3 .i64 bm r D/\w.Shuns bm No/\ZkL D s r
structure Keeps (w w':World) (base gp bm:Nat) (No:Nat->Prop):Prop where
 os:w'.os=w.os
 tape:w'.tape=w.tape
 output:w'.output=w.output
 size:w.heap.size<=w'.heap.size
 block:∀ k,k<w.heap.size->k ≠ gp->k ≠ bm->(k<base\/No k)->w'.heap[k]?=w.heap[k]?
theorem Keeps.refl (w:World) (base gp bm:Nat) (No:Nat->Prop):Keeps w w base gp bm No:=⟨rfl,rfl,rfl,Nat.le_refl _,fun _ _ _ _ _=>rfl⟩
theorem Keeps.trans {a b c:World} {base gp bm:Nat} {No:Nat->Prop} (h:Keeps a b base gp bm No) (k:Keeps b c base gp bm No):Keeps a c base gp bm No :=
 ⟨k.os.trans h.os,k.tape.trans h.tape,k.output.trans h.output,nt h.size k.size,fun i h1 h2 h3 h4=>(k.block i (nT h1 h.size) h2 h3 h4).trans (h.block i h1 h2 h3 h4)⟩
theorem PastAt.below {w w':World} {base gp bm r:Nat} {No:Nat->Prop} {s:ByteArray} (h:PastAt w base gp bm No s r) (hb:Below w.heap.size w w'):PastAt w' base gp bm No s r:=by
 obtain ⟨D,hm,ho,hsh,hr⟩:=h.map
 have hg:w.grownBy w' none:=⟨hb.os,hb.tape,hb.output,hb.size,fun k hk _=>hb.block k hk⟩
 have hlt:gp<w.heap.size:=nT h.gb h.bs;have hbm:bm<w.heap.size:=by obtain ⟨es,clock,hb,_⟩:=ho;exact (aG.1 hb).1
 refine ⟨?_,?_,?_,?_,h.gb,h.ne,nt h.bs hb.size,D,hm,ho.kept hg (by simp) (fun es clock _ x _=>by cases x.val.ownBlock <;> simp),hsh.kept hg hbm (by simp),hr⟩
 ·rw [hb.cell (by exact hlt)];exact h.c0
 ·rw [hb.cell (by exact hlt)];exact h.c1
 ·rw [hb.cell (by exact hlt)];exact h.c2
 ·rw [hb.frozen (by exact hlt)];exact h.f2
theorem ZnY {D:DataW Value} {s:ByteArray} {r:Nat} (hm:IsMap D) (h:ZkL D s r) {k:List UInt8} (hk:Tk.win s.data.toList r=k) {d:DataW Value} {zs:List Int} (hz:Znv (D.atKey (.string k) .nil)=lits .i64 zs) (hd:Znv d=lits .i64 (zs++[(r:Int)])):ZkL (D.put (.string k) d) s (r+1):=by
 intro k';rw [Tk.Zox];by_cases e:k'=k
 ·subst e;rw [atKey_put_same hm (k:=.string k') (by exact trivial),hd,if_pos hk];have:=ZjH ((h k').symm.trans hz);rw [List.map_append,this];rfl
 ·have e3:¬ Tk.win s.data.toList r=k':=fun e2=>e (e2.symm.trans hk)
  rw [atKey_put_other (by simp;exact e),h k',if_neg e3,List.append_nil]
theorem ZkS {w:World} {base gp bm r:Nat} {No:Nat->Prop} {s k:ByteArray} (h:PastAt w base gp bm No s r) (hr:r<1000000) (hk:k.size<=maxLen) (hwin:Tk.win s.data.toList r=k.data.toList) :
 ∃ (v:Value) (zs:List Int),(∀ w',w'.heap[bm]?=w.heap[bm]?->(Instr.lookup 141 (.map (some bm)) (.string k) false).run Tryz.prog w'=.ok v w')/\w.ownsRow base 3 1 v zs.length (zs.map (Value.int .i64))/\zs.length<=r ∧
  ∀ w1 v',w.grownBy w1 v.ownBlock->w1.ownsRow base 3 1 v' (zs.length+1) (zs.map (Value.int .i64)++[.int .i64 (r:Nat)])->(v.ownBlock=v'.ownBlock\/∃ g,v'.ownBlock=some g/\w.heap.size<=g/\¬ No g) →
   ∃ w2,(Instr.mapUpdate 141 (.map (some bm)) (.string k) v').run Tryz.prog w1=.ok () w2/\w1.grownBy w2 (some bm) ∧
    (∃ D:DataW Value,IsMap D/\w2.ownsGroups Tryz.prog 9 base 3 .i64 bm (r+1) D/\w2.Shuns bm No/\ZkL D s (r+1))/\Keeps w w2 base bm bm No:=by
 obtain ⟨D,hm,ho,hsh,hrd⟩:=h.map;have hbb:bm<base:=by obtain ⟨_,_,_,_,_,_,hbb,_⟩:=ho;exact hbb
 have hr2:r<maxLen:=by unfold maxLen;omega
 obtain ⟨v,zs,hrun,hat,hoi,hzl,hback⟩:=ho.at slaw U141 (Zbs w) hr2 (skey k hk)
 have hsv:∀ g,v.ownBlock=some g->¬ No g:=by
  obtain ⟨es,clock,hb,F,_⟩:=ho;rcases fit_look false slaw U141 (Zbs w) hb F (skey k hk) with ⟨hrun',_,_⟩ | ⟨e0,y,hm0,_,hrun',_,_,_⟩
  ·rw [hrun] at hrun';obtain rfl:v=.slice none 0 0:=by simpa using hrun'
   intro g hg'
   cases hg'
  ·rw [hrun] at hrun';obtain rfl:v=e0.val:=by simpa using hrun'
   exact fun g hg'=>hsh es clock hb e0 hm0 g hg'
 refine ⟨v,zs,fun w' hw'=>?_,hoi.1,hzl,fun w1 v' hg hown' hloc=>?_⟩
 ·obtain ⟨es,clock,hb,F,_⟩:=ho;exact Zhj slaw U141 (Zbs w) (Zbs w') hb hw' F (skey k hk) hrun
 ·have hoi':=hoi.appended hown' (WalkArith.wf_i64 (by omega))
  have hloc':v'.ownBlock=v.ownBlock\/∃ g,v'.ownBlock=some g/\w.heap.size<=g:=by
   rcases hloc with h1 | ⟨g,h1,h2,_⟩
   ·exact .inl h1.symm
   ·exact .inr ⟨g,h1,h2⟩
  obtain ⟨w2,hrun2,ho2,hg2⟩:=hback w1 v' (zs++[(r:Int)]) hg hoi' (by simp;omega) hloc';refine ⟨w2,hrun2,hg2,⟨_,hm.put _ _,ho2,?_,?_⟩,?_⟩
  ·obtain ⟨es,clock,hb,F,hs,_,hbb,_⟩:=ho;have hblt:bm<w.heap.size:=(aG.1 hb).1;have hb1:w1.heap[bm]?=some (.map es clock):=(hg.block bm hblt (fun e1=>by have:=(hoi.1.lt bm e1.symm).1;omega)).trans hb;obtain ⟨es',clock',hb2,hwho⟩:=stored_who slaw U141 hb1 F (Nat.lt_of_le_of_lt hs hr2) (skey k hk) hrun2;intro es2 clock2 hb2' y hy g hyg;obtain ⟨rfl,rfl⟩:es'=es2/\clock'=clock2:=by rw [hb2] at hb2';simpa using hb2'
   rcases hwho y hy with ⟨hy0,_⟩ | ⟨_,hval⟩
   ·exact hsh es clock hb y hy0 g hyg
   ·rw [hval] at hyg;rcases hloc with h1 | ⟨g1,h1,_,h3⟩
    ·exact hsv g (by rw [h1];exact hyg)
    ·rw [h1] at hyg
     cases hyg
     exact h3
  ·exact ZnY hm hrd hwin (by rw [hat];exact ZeB hoi) (ZeB hoi')
  ·refine ⟨hg2.os.trans hg.os,hg2.tape.trans hg.tape,hg2.output.trans hg.output,nt hg.size hg2.size,fun i h1 _ h3 h4=>?_⟩;rw [hg2.block i (Nat.lt_of_lt_of_le h1 hg.size) (by simp;exact h3)];refine hg.block i h1 (fun e1=>?_);rcases h4 with h4 | h4
   ·have:=(hoi.1.lt i e1.symm).1;omega
   ·exact hsv i e1.symm h4
theorem Keeps.wide {w w':World} {base bm:Nat} {No:Nat->Prop} (h:Keeps w w' base bm bm No) (gp:Nat):Keeps w w' base gp bm No:=⟨h.os,h.tape,h.output,h.size,fun k h1 _ h3 h4=>h.block k h1 h3 h3 h4⟩
theorem Keeps.cell {w w':World} {base gp bm:Nat} {No:Nat->Prop} (h:Keeps w w' base gp bm No) {p:Addr} (h1:p.block<w.heap.size) (h2:p.block ≠ gp) (h3:p.block ≠ bm) (h4:p.block<base\/No p.block):w'.cell? p=w.cell? p:=World.cell?_of_block (w:=w) (h.block p.block h1 h2 h3 h4)
theorem Keeps.frozen {w w':World} {base gp bm:Nat} {No:Nat->Prop} (h:Keeps w w' base gp bm No) {p:Addr} (h1:p.block<w.heap.size) (h2:p.block ≠ gp) (h3:p.block ≠ bm) (h4:p.block<base\/No p.block):w'.frozen? p=w.frozen? p:=World.frozen?_of_block (w:=w) (h.block p.block h1 h2 h3 h4)
theorem Keeps.below {w w':World} {base gp bm B:Nat} {No:Nat->Prop} (h:Keeps w w' base gp bm No) (h1:B<=gp) (h2:B<=bm) (h3:B<=base) (h4:B<=w.heap.size):Below B w w' :=
 ⟨h.os,h.tape,h.output,h.size,fun k hk=>h.block k (by omega) (by omega) (by omega) (.inl (by omega))⟩
theorem Keeps.of_below {w w':World} {base gp bm:Nat} {No:Nat->Prop} (h:Below w.heap.size w w'):Keeps w w' base gp bm No:=⟨h.os,h.tape,h.output,h.size,fun k hk _ _ _=>h.block k hk⟩
theorem Keeps.setCell {w w':World} {base gp bm:Nat} {No:Nat->Prop} (h:Keeps w w' base gp bm No) (o:Nat) (u:Value):Keeps w (w'.setCell ⟨gp,o,none⟩ u) base gp bm No :=
 h.trans ⟨rfl,rfl,rfl,by simp,fun k _ h2 _ _=>zhS _ _ _ _ h2⟩
theorem ZmO {w:World} {base gp bm r:Nat} {No:Nat->Prop} {s:ByteArray} (c0:w.cell? ⟨gp,0,none⟩=some (.string s)) (c1:w.cell? ⟨gp,1,none⟩=some (.map (some bm))) (c2:w.cell? ⟨gp,2,none⟩=some (.int .i64 (r:Nat))) (f2:w.frozen? ⟨gp,2,none⟩=false)
 (hgb:gp<base) (hne:gp ≠ bm) (hbs:base<=w.heap.size) (hmap:∃ D:DataW Value,IsMap D/\w.ownsGroups Tryz.prog 9 base 3 .i64 bm (r+1) D/\w.Shuns bm No/\ZkL D s (r+1)) :
 PastAt (w.setCell ⟨gp,2,none⟩ (.int .i64 ((r+1:Nat):Int))) base gp bm No s (r+1):=by
 obtain ⟨D,hm,ho,hsh,hrd⟩:=hmap;have hlt:gp<w.heap.size:=nT hgb hbs;have hbm:bm<w.heap.size:=by obtain ⟨es,clock,hb,_⟩:=ho;exact (aG.1 hb).1
 have hg:w.grownBy (w.setCell ⟨gp,2,none⟩ (.int .i64 ((r+1:Nat):Int))) (some gp):=⟨rfl,rfl,rfl,by simp,fun k _ h2=>zhS _ _ _ _ (fun e=>h2 (by rw [e]))⟩
 refine ⟨?_,?_,?_,?_,hgb,hne,by simpa using hbs,D,hm,ho.kept hg (by simp;exact fun e=>hne e.symm) (ho.rowsAbove (fun j hj=>by cases hj;exact hgb)),hsh.kept hg hbm (by simp;exact fun e=>hne e.symm),hrd⟩
 ·exact (cO w ⟨gp,2,none⟩ ⟨gp,0,none⟩ _ (by simp)).trans c0
 ·exact (cO w ⟨gp,2,none⟩ ⟨gp,1,none⟩ _ (by simp)).trans c1
 ·exact cS w _ _ c2
 ·rw [World.frozen?_setCell];exact f2
theorem Zmm (s:ByteArray) (a b:Nat) (ha:a<s.size) (hb:b<s.size):((s[a].toNat:Int) == (s[b].toNat:Int))=decide (s.data.toList[a]?=s.data.toList[b]?):=by
 rw [Nm.ZL s a ha,Nm.ZL s b hb];by_cases h:s[a]=s[b]
 ·simp [h]
 ·have:¬ (s[a].toNat:Int)=(s[b].toNat:Int):=fun e=>h (UInt8.toNat_inj.1 (by omega))
  simp [h,this]
theorem ZpY (w:World) (n m:Nat):(w.drewN n).drewN m=w.drewN (n+m):=by simp [World.drewN,Nat.add_assoc]
theorem ZjK (s:ByteArray) (i:Int) (n:Nat) (h:i=(n:Int)) (hn:n<s.size) (w:World):(Instr.index 9 (.string s) (.int .i64 i)).run Tryz.prog w=.ok (.int .u8 (s[n].toNat:Int)) w:=by
 subst h;rw [run_index_string w _ _ _ _ Tryz.underlying9];simp [hn]
theorem Zpm (s:ByteArray) (at_ far:Nat) (w:World) (hs:s.size<=2000) (ha:at_<=s.size) (hf1:1<=far) (hf:far<=at_) :
 Calls Tryz.prog 138 #[.string s,.int .i64 at_,.int .i64 far] w fun e w'=>e=.returned (.int .i64 (Tk.alk s.data.toList (at_ - far) at_ (min 64 (s.size - at_)):Nat))/\Below w.heap.size w w':=by
 have hs2:(s.size:Int)<=2000:=by omega
 have ha2:(at_:Int)<=2000:=by omega
 have hf2:(far:Int)<=(at_:Int):=by omega
 go_enter Tryz.func138,Tryz.ntmps138
 go_wp2_with fail
 go_loopw [7] (fun x wr=>∃ k:Nat,k<=64/\at_+k<=s.size/\x=.int .i64 k/\Hid (∀ j,j<k->s.data.toList[at_ - far+j]?=s.data.toList[at_+j]?)/\Below w.heap.size w wr) (fun x _=>64 - (intOf x).toNat)
 case atStart=>exact ⟨0,by omega,by omega,rfl,fun j h=>by omega,bR _ _⟩
 case round =>
  obtain ⟨k,hk,hka,rfl,hall,G⟩:=hrel;have hr1:IntKind.i64.wrap ((at_:Int)+(k:Int))=(at_:Int)+(k:Int):=IntWalk.i64_in _ ⟨by omega,by omega⟩;have hr2:IntKind.i64.wrap ((at_:Int)+(k:Int) - (far:Int))=(at_:Int)+(k:Int) - (far:Int):=IntWalk.i64_in _ ⟨by omega,by omega⟩;by_cases h64:k<64
  ·have d1:decide ((k:Int)<64)=true:=by simp;omega
   have d1':decide (k<64)=true:=by simp;omega
   by_cases hend:at_+k<s.size
   ·have d2:decide ((at_:Int)+(k:Int)<(s.size:Int))=true:=by simp;omega
    have hb:=Zmm s (at_+k) (at_+k - far) hend (by omega);have hx1:=ZjK s ((at_:Int)+(k:Int)) (at_+k) (by omega) hend;have hx2:=ZjK s ((at_:Int)+(k:Int) - (far:Int)) (at_+k - far) (by omega) (by omega);generalize (s[at_+k].toNat:Int)=x at *;generalize (s[at_+k - far].toNat:Int)=y at *;by_cases he:s.data.toList[at_+k]?=s.data.toList[at_+k - far]?
    ·rw [decide_eq_true he] at hb
     have HE:Hid (s.data.toList[at_ - far+k]?=s.data.toList[at_+k]?):=by
      show _=_;rw [he,show at_ - far+k=at_+k - far by omega]
     clear he;go_wp2_with fail
     go_quiet (fail)
     go_wp2_with fail
     go_roundw
     case rel =>
      refine ⟨k+1,by omega,by omega,by go_num,?_,below_drewN G _⟩;intro j hj;by_cases hjk:j=k
      ·subst hjk;exact HE.out
      ·exact hall.out j (by omega)
     case measure=>simp [intOf];omega
    ·rw [decide_eq_false he] at hb
     have HE:Hid (Tk.alk s.data.toList (at_ - far) at_ (min 64 (s.size - at_))=k):=by
      refine Tk.Zgx _ _ _ _ _ (by omega) hall.out (Or.inr (fun e=>he ?_));rw [<-e,show at_ - far+k=at_+k - far by omega]
     clear he;go_wp2_with fail
     go_quiet (fail)
     go_wp2_with fail
     go_ret
     exact ⟨by rw [HE.out];rfl,below_drewN G _⟩
   ·have d2:decide ((at_:Int)+(k:Int)<(s.size:Int))=false:=by simp;omega
    have HE:Hid (Tk.alk s.data.toList (at_ - far) at_ (min 64 (s.size - at_))=k):=Tk.Zgx _ _ _ _ _ (by omega) hall.out (Or.inl (by omega));go_wp2_with fail
    go_quiet (fail)
    go_wp2_with fail
    go_ret
    exact ⟨by rw [HE.out];rfl,below_drewN G _⟩
  ·have d1:decide ((k:Int)<64)=false:=by simp;omega
   have d1':decide (k<64)=false:=by simp;omega
   have HE:Hid (Tk.alk s.data.toList (at_ - far) at_ (min 64 (s.size - at_))=k):=Tk.Zgx _ _ _ _ _ (by omega) hall.out (Or.inl (by omega));go_wp2_with fail
   go_quiet (fail)
   go_wp2_with fail
   go_ret
   exact ⟨by rw [HE.out];rfl,below_drewN G _⟩
theorem Zna (gp:Nat) (s:ByteArray) (a b m:Nat) (w:World) (hc:w.cell? ⟨gp,0,none⟩=some (.string s)) (hs:s.size<=2000) (ha:a+m<=s.size) (hb0:b+m<=s.size) :
 Calls Tryz.prog 143 #[.pointer (some ⟨gp,0,none⟩),.int .i64 a,.int .i64 b,.int .i64 m] w fun e w'=>e=.returned (.int .i64 (Tk.alk s.data.toList a b m:Nat))/\∃ n,w'=w.drewN n:=by
 have hs2:(s.size:Int)<=2000:=by omega
 have hm2:(m:Int)<=2000:=by omega
 go_enter Tryz.func143,Tryz.ntmps143
 go_wp2_with fail
 go_loopw [9] (fun x wr=>∃ k:Nat,k<=m/\x=.int .i64 k/\Hid (∀ j,j<k->s.data.toList[a+j]?=s.data.toList[b+j]?)/\∃ n,wr=w.drewN n) (fun x _=>m - (intOf x).toNat)
 case atStart=>exact ⟨0,by omega,rfl,fun j h=>by omega,0,rfl⟩
 case round =>
  obtain ⟨k,hk,rfl,hall,n,rfl⟩:=hrel;by_cases h64:k<m
  ·have d1:decide ((k:Int)<(m:Int))=true:=by simp;omega
   have d1':decide (k<m)=true:=by simp;omega
   have hr1:IntKind.i64.wrap ((a:Int)+(k:Int))=(a:Int)+(k:Int):=IntWalk.i64_in _ ⟨by omega,by omega⟩;have hr2:IntKind.i64.wrap ((b:Int)+(k:Int))=(b:Int)+(k:Int):=IntWalk.i64_in _ ⟨by omega,by omega⟩;have hb:=Zmm s (a+k) (b+k) (by omega) (by omega);have hx1:=ZjK s ((a:Int)+(k:Int)) (a+k) (by omega) (by omega);have hx2:=ZjK s ((b:Int)+(k:Int)) (b+k) (by omega) (by omega);generalize (s[a+k].toNat:Int)=x at *;generalize (s[b+k].toNat:Int)=y at *;by_cases he:s.data.toList[a+k]?=s.data.toList[b+k]?
   ·rw [decide_eq_true he] at hb;have HE:Hid (s.data.toList[a+k]?=s.data.toList[b+k]?):=he;clear he;go_wp2_with fail
    go_quiet (fail)
    go_wp2_with fail
    go_roundw
    case rel =>
     refine ⟨k+1,by omega,by go_num,?_,_,rfl⟩;intro j hj;by_cases hjk:j=k
     ·subst hjk;exact HE.out
     ·exact hall.out j (by omega)
    case measure=>simp [intOf];omega
   ·rw [decide_eq_false he] at hb;have HE:Hid (Tk.alk s.data.toList a b m=k):=Tk.Zgx _ _ _ _ _ (by omega) hall.out (Or.inr he);clear he;go_wp2_with fail
    go_quiet (fail)
    go_wp2_with fail
    go_ret
    exact ⟨by rw [HE.out];rfl,_,ZpY _ _ _⟩
  ·have d1:decide ((k:Int)<(m:Int))=false:=by simp;omega
   have d1':decide (k<m)=false:=by simp;omega
   have HE:Hid (Tk.alk s.data.toList a b m=k):=Tk.Zgx _ _ _ _ _ (by omega) hall.out (Or.inl (by omega));go_wp2_with fail
   go_quiet (fail)
   go_wp2_with fail
   go_ret
   exact ⟨by rw [HE.out];rfl,_,ZpY _ _ _⟩
end Go.Proofs.YtbjbjbpgmojcbacGreat
