/- A part of the proof: what it leans on. -/
import Derived.Deep.RegionHeld
import Derived.Deep.AppendLies
import Derived.OrdersHeld
import Derived.Lib.IndexMore
import Derived.Lib.Bytealg
import GoSem.Op.String
import Derived.Below
import Derived.Shelf.LaysM
import Derived.Shelf.Strconv.Clone
import Derived.Test.YtbjbjbpgmojcbacGreatProg
import Derived.WalkKit
import Derived.WalkSpells
import Derived.WalkLawsBesides
namespace Go.Proofs.YtbjbjbpgmojcbacGreat
abbrev rC:=@AllReadyH.cons
abbrev rN:=@AllReadyH.nil
abbrev aG:=@Array.getElem?_eq_some_iff
abbrev zhS:=@Go.RowKit.Below.heap_setCell
abbrev bR:=@Go.RowKit.Below.refl
abbrev gM:=@List.getElem_mem
abbrev lZ:=@List.length_eq_zero_iff
abbrev nL:=@Nat.le_of_lt
abbrev nl:=@Nat.le_refl
abbrev nt:=@Nat.le_trans
abbrev nT:=@Nat.lt_of_lt_of_le
abbrev U104:=@Tryz.underlying104
abbrev U118:=@Tryz.underlying118
abbrev U127:=@Tryz.underlying127
abbrev U141:=@Tryz.underlying141
abbrev U160:=@Tryz.underlying160
abbrev U192:=@Tryz.underlying192
abbrev U195:=@Tryz.underlying195
abbrev U22:=@Tryz.underlying22
abbrev U24:=@Tryz.underlying24
abbrev zU3:=@Tryz.underlying3
abbrev U30:=@Tryz.underlying30
abbrev U31:=@Tryz.underlying31
abbrev U5:=@Tryz.underlying5
abbrev U77:=@Tryz.underlying77
abbrev U9:=@Tryz.underlying9
abbrev cL:=@World.block_lt_of_cell?
abbrev cA:=@World.cell?_alloc_lt
abbrev cN:=@World.cell?_alloc_new
abbrev cB:=@World.cell?_of_block
abbrev cO:=@World.cell?_setCell_other
abbrev cS:=@World.cell?_setCell_same
abbrev fN:=@World.frozen?_alloc_at
abbrev fB:=@World.frozen?_of_block
abbrev dF:=@decide_eq_false
abbrev zdT:=@decide_eq_true
abbrev zsL:=@step_append_lies
abbrev wY:=@wpAnyH_ready
abbrev wK:=@wpAnyH_take
abbrev zwL:=@wpList_append_lies
end Go.Proofs.YtbjbjbpgmojcbacGreat
set_option maxHeartbeats 400000
namespace Go.Proofs.YtbjbjbpgmojcbacGreat.Nm
def nbGo:Nat->Nat->List UInt8
 | 0,n=>[UInt8.ofNat n]
 | f+1,n=>if n<128 then [UInt8.ofNat n] else UInt8.ofNat (128+n % 128) :: nbGo f (n / 128)
def nb (n:Nat):List UInt8:=nbGo n n
theorem Zoj:∀ (f g n:Nat),n<=f->n<=g->nbGo f n=nbGo g n:=by
 intro f
 induction f with
 | zero =>
  intro g n hf hg;have:n=0:=by omega
  subst this
  cases g <;> simp [nbGo]
 | succ f ih =>
  intro g n hf hg
  cases g with
  | zero =>
   have:n=0:=by omega
   subst this;simp [nbGo]
  | succ g =>
   simp only [nbGo];by_cases h:n<128
   ·simp [h]
   ·simp only [h,if_false];rw [ih g (n / 128) (by omega) (by omega)]
theorem Zdy {n:Nat} (h:n<128):nb n=[UInt8.ofNat n]:=by
 unfold nb
 cases n with
 | zero=>rfl
 | succ n=>simp [nbGo,h]
theorem Zha {n:Nat} (h:128<=n):nb n=UInt8.ofNat (128+n % 128) :: nb (n / 128):=by
 unfold nb
 obtain ⟨m,rfl⟩:∃ m,n=m+1:=⟨n - 1,by omega⟩
 rw [nbGo,if_neg (by omega),Zoj m ((m+1) / 128) ((m+1) / 128) (by omega) (by omega)]
theorem ZpJ (n:Nat):nb n ≠ []:=by
 by_cases h:n<128
 ·rw [Zdy h];simp
 ·rw [Zha (by omega)];simp
theorem ZcM:∀ (k n:Nat),n<128 ^ (k+1)->(nb n).length<=k+1:=by
 intro k
 induction k with
 | zero=>intro n h;rw [Zdy (by simpa using h)];simp
 | succ k ih =>
  intro n h;by_cases h2:n<128
  ·rw [Zdy h2];simp
  ·rw [Zha (by omega),List.length_cons]
   have:=ih (n / 128) (by
    rw [Nat.pow_succ] at h
    exact (Nat.div_lt_iff_lt_mul (by omega)).2 h)
   omega
theorem ZD (n:Nat) (h:n<=2147483647):(nb n).length<=5:=ZcM 4 n (by omega)
theorem ZkX (n:Nat):1<=(nb n).length:=by
 have:=ZpJ n
 cases h:nb n with
 | nil=>exact absurd h this
 | cons a l=>simp
def val:List UInt8->Nat
 | []=>0
 | b :: t=>b.toNat % 128+128*val t
theorem ZjZ (p:List UInt8) (b:UInt8):val (p++[b])=val p+b.toNat % 128*128 ^ p.length:=by
 induction p with
 | nil=>simp [val]
 | cons a p ih =>
  simp only [List.cons_append,val,ih,List.length_cons,Nat.pow_succ,Nat.mul_add]
  rw [show b.toNat % 128*(128 ^ p.length*128)=128*(b.toNat % 128*128 ^ p.length) by
   rw [<-Nat.mul_assoc,Nat.mul_comm]]
  omega
theorem Zqt (p:List UInt8):val p<128 ^ p.length:=by
 induction p with
 | nil=>simp [val]
 | cons a p ih =>
  simp only [val,List.length_cons,Nat.pow_succ];have:a.toNat % 128<128:=Nat.mod_lt _ (by omega);omega
def pre:Nat->List UInt8->Option (List UInt8)
 | 0,_=>none
 | _+1,[]=>none
 | k+1,b :: t=>if b.toNat<128 then some [b] else (pre k t).map (b :: ·)
theorem ZoM:∀ (k:Nat) (l:List UInt8),(∀ j,j<k->∀ b,l[j]?=some b->128<=b.toNat)->pre k l=none:=by
 intro k
 induction k with
 | zero=>intro l _;cases l <;> rfl
 | succ k ih =>
  intro l h
  cases l with
  | nil=>rfl
  | cons b t =>
   have hb:=h 0 (by omega) b rfl;rw [pre,if_neg (by omega),ih t (fun j hj c hc=>h (j+1) (by omega) c (by simpa using hc))];rfl
theorem Zkc:∀ (k i:Nat) (l:List UInt8) (b:UInt8),i<k->l[i]?=some b->b.toNat<128 →
 (∀ j,j<i->∀ c,l[j]?=some c->128<=c.toNat)->pre k l=some (l.take (i+1)):=by
 intro k
 induction k with
 | zero=>intro i l b h;omega
 | succ k ih =>
  intro i l b hi hb hlt h
  cases l with
  | nil=>simp at hb
  | cons c t =>
   cases i with
   | zero =>
    simp at hb;subst hb;simp [pre,hlt]
   | succ i =>
    have hc:=h 0 (by omega) c rfl;rw [pre,if_neg (by omega),ih i t b (by omega) (by simpa using hb) hlt (fun j hj d hd=>h (j+1) (by omega) d (by simpa using hd))];rfl
def Zm (l:List UInt8):Option (Nat × Nat) :=
 match pre 5 l with
 | none=>none
 | some p=>if val p<=2147483647/\nb (val p)=p then some (val p,p.length) else none
theorem ZnJ:∀ (k:Nat) (l p:List UInt8),pre k l=some p →
 ∃ q b,p=q++[b]/\b.toNat<128/\(∀ c ∈ q,128<=c.toNat)/\l=p++l.drop p.length/\p.length<=k:=by
 intro k
 induction k with
 | zero=>intro l p h;simp [pre] at h
 | succ k ih =>
  intro l p h
  cases l with
  | nil=>simp [pre] at h
  | cons b t =>
   by_cases hb:b.toNat<128
   ·simp [pre,hb] at h;subst h;exact ⟨[],b,rfl,hb,by simp,by simp,by simp⟩
   ·rw [pre,if_neg hb] at h
    cases hp:pre k t with
    | none=>rw [hp] at h;simp at h
    | some p' =>
     rw [hp] at h;simp at h;subst h;obtain ⟨q,c,rfl,h1,h2,h3,h4⟩:=ih t p' hp;refine ⟨b :: q,c,by simp,h1,?_,?_,?_⟩
     ·intro d hd;rcases List.mem_cons.1 hd with rfl | hd
      ·omega
      ·exact h2 d hd
     ·simp only [List.cons_append,List.length_cons,List.drop_succ_cons];rw [<-h3]
     ·simp only [List.length_cons];omega
theorem ZbX (b:UInt8):UInt8.ofNat b.toNat=b:=by simp
theorem Zsg (b:UInt8) (h:128<=b.toNat):UInt8.ofNat (128+b.toNat % 128)=b:=by
 have h2:=b.toNat_lt;have:128+b.toNat % 128=b.toNat:=by omega
 rw [this,ZbX]
theorem ZtQ:∀ (q:List UInt8) (b:UInt8),b.toNat<128->(∀ c ∈ q,128<=c.toNat)->(q=[]\/b ≠ 0)->nb (val (q++[b]))=q++[b]:=by
 intro q
 induction q with
 | nil =>
  intro b hb _ _;simp only [List.nil_append,val,Nat.mul_zero,Nat.add_zero];rw [Nat.mod_eq_of_lt hb,Zdy hb,ZbX]
 | cons c q ih =>
  intro b hb hq h0
  have hb0:b ≠ 0:=by
   rcases h0 with h0 | h0
   ·simp at h0
   ·exact h0
  have hc:=hq c (by simp);have ih':=ih b hb (fun d hd=>hq d (by simp [hd])) (Or.inr hb0)
  have hpos:1<=val (q++[b]):=by
   rw [ZjZ]
   have:1<=b.toNat % 128:=by
    rw [Nat.mod_eq_of_lt hb];rcases Nat.eq_zero_or_pos b.toNat with h | h
    ·exact absurd (by simpa using congrArg UInt8.ofNat h) hb0
    ·exact h
   have h2:1<=128 ^ q.length:=Nat.pow_pos (by omega);have:=Nat.mul_le_mul this h2;omega
  simp only [List.cons_append,val];rw [Zha (by omega)]
  rw [show (c.toNat % 128+128*val (q++[b])) % 128=c.toNat % 128 by omega,
   show (c.toNat % 128+128*val (q++[b])) / 128=val (q++[b]) by omega,Zsg c hc,ih']
theorem Zkz:∀ (f n:Nat),n<=f->128<=n->∃ q b,nb n=q++[b]/\b ≠ 0:=by
 intro f
 induction f with
 | zero=>intro n h1 h2;omega
 | succ f ih =>
  intro n h1 h2;rw [Zha h2];by_cases h:n / 128<128
  ·rw [Zdy h];refine ⟨[UInt8.ofNat (128+n % 128)],UInt8.ofNat (n / 128),rfl,?_⟩;intro e;have:=congrArg UInt8.toNat e;simp at this;omega
  ·obtain ⟨q,b,hq,hb⟩:=ih (n / 128) (by omega) (by omega);exact ⟨UInt8.ofNat (128+n % 128) :: q,b,by rw [hq];rfl,hb⟩
theorem ZoV (q:List UInt8) (h:q ≠ []) (n:Nat):nb n ≠ q++[0]:=by
 intro e;by_cases hn:n<128
 ·rw [Zdy hn] at e;have:=congrArg List.length e;simp at this;exact h this
 ·obtain ⟨q',b,hq,hb⟩:=Zkz n n (nl _) (by omega);rw [hq] at e;have:=List.append_inj' e rfl;simp at this;exact hb this.2
theorem Zuf:∀ (f n:Nat),n<=f->val (nb n)=n:=by
 intro f
 induction f with
 | zero =>
  intro n h;have:n=0:=by omega
  subst this;rw [Zdy (by omega)];simp [val]
 | succ f ih =>
  intro n h;by_cases hn:n<128
  ·rw [Zdy hn];simp only [val,UInt8.toNat_ofNat'];omega
  ·rw [Zha (by omega)];simp only [val,UInt8.toNat_ofNat'];rw [ih (n / 128) (by omega)];omega
theorem Zun:∀ (k n:Nat) (r:List UInt8),(nb n).length<=k->pre k (nb n++r)=some (nb n):=by
 intro k
 induction k with
 | zero=>intro n r h;have:=ZkX n;omega
 | succ k ih =>
  intro n r h;by_cases hn:n<128
  ·rw [Zdy hn];simp only [List.cons_append,List.nil_append,pre,UInt8.toNat_ofNat'];rw [if_pos (by omega)]
  ·rw [Zha (by omega)] at h |-
   simp only [List.length_cons] at h;simp only [List.cons_append,pre,UInt8.toNat_ofNat'];rw [if_neg (by omega),ih (n / 128) r (by omega)];rfl
theorem Zec (n:Nat) (r:List UInt8) (h:n<=2147483647):Zm (nb n++r)=some (n,(nb n).length):=by
 unfold Zm;rw [Zun 5 n r (ZD n h)];simp only [Zuf n n (Nat.le_refl _)];simp [h]
theorem Zaj {l:List UInt8} {n k:Nat} (h:Zm l=some (n,k)):n<=2147483647/\nb n=l.take k/\k<=l.length/\1<=k/\k<=5:=by
 unfold Zm at h
 cases hp:pre 5 l with
 | none=>rw [hp] at h;simp at h
 | some p =>
  rw [hp] at h;simp only at h;by_cases hc:val p<=2147483647/\nb (val p)=p
  ·rw [if_pos hc] at h;simp only [Option.some.injEq,Prod.mk.injEq] at h;obtain ⟨rfl,rfl⟩:=h;obtain ⟨q,b,hqb,_,_,h3,h4⟩:=ZnJ 5 l p hp;refine ⟨hc.1,?_,?_,?_,h4⟩
   ·rw [hc.2]
    conv=>rhs;rw [h3]
    simp
   ·rw [h3];simp
   ·rw [hqb];simp
  ·rw [if_neg hc] at h;simp at h
theorem Zsc (l:List UInt8) (i:Nat) (b:UInt8) (hi:i<5) (hb:l[i]?=some b) (hlt:b.toNat<128)
 (h:∀ j,j<i->∀ c,l[j]?=some c->128<=c.toNat) :
 Zm l=if (b=0/\0<i)\/2147483647<val (l.take (i+1)) then none else some (val (l.take (i+1)),i+1):=by
 have hp:=Zkc 5 i l b hi hb hlt h
 have hil:i<l.length:=by
  rcases Nat.lt_or_ge i l.length with h | h
  ·exact h
  ·rw [List.getElem?_eq_none h] at hb;simp at hb
 have ht:l.take (i+1)=l.take i++[b]:=by
  rw [List.take_succ_eq_append_getElem hil]
  congr 1
  rw [List.getElem?_eq_getElem hil] at hb;simpa using hb
 have hlen:(l.take (i+1)).length=i+1:=by simp;omega
 unfold Zm;rw [hp];simp only;by_cases hv:2147483647<val (l.take (i+1))
 ·rw [if_neg (by omega),if_pos (Or.inr hv)]
 ·by_cases hs:b=0/\0<i
  ·rw [if_pos (Or.inl hs),if_neg];intro hc;have h2:=hc.2;rw [ht,hs.1] at h2;exact ZoV (l.take i) (by intro e;have:=congrArg List.length e;rw [List.length_take,List.length_nil] at this;omega) _ h2
  ·have hn:¬((b=0/\0<i)\/2147483647<val (l.take (i+1))):=by
    rintro (h | h)
    ·exact hs h
    ·exact hv h
   rw [if_neg hn,if_pos,hlen];refine ⟨by omega,?_⟩;rw [ht];refine ZtQ (l.take i) b hlt ?_ ?_
   ·intro c hc;obtain ⟨j,hj,rfl⟩:=List.getElem_of_mem hc;have hj2:j<i:=by simp at hj;omega
    refine h j hj2 _ ?_;rw [List.getElem_take];exact List.getElem?_eq_getElem _
   ·by_cases hi0:i=0
    ·left;subst hi0;simp
    ·right;intro e;exact hs ⟨e,by omega⟩
theorem Zpz (l:List UInt8) (i:Nat) (b:UInt8) (hi:i<5) (hb:l[i]?=some b) (hlt:b.toNat<128)
 (h:∀ j,j<i->∀ c,l[j]?=some c->128<=c.toNat) :
 Zm l=if val (l.take (i+1))<=2147483647/\nb (val (l.take (i+1)))=l.take (i+1) then some (val (l.take (i+1)),i+1) else none:=by
 have hil:i<l.length:=by
  rcases Nat.lt_or_ge i l.length with h | h
  ·exact h
  ·rw [List.getElem?_eq_none h] at hb;simp at hb
 have hlen:(l.take (i+1)).length=i+1:=by simp;omega
 unfold Zm;rw [Zkc 5 i l b hi hb hlt h];simp only [hlen]
theorem Zgq (l:List UInt8) (h:∀ j,j<5->∀ b,l[j]?=some b->128<=b.toNat):Zm l=none:=by
 unfold Zm;rw [ZoM 5 l h]
theorem ZiU (a b:List UInt8):(⟨a.toArray⟩:ByteArray)++⟨b.toArray⟩=⟨(a++b).toArray⟩:=by
 apply ByteArray.ext;simp
theorem Znt (s:ByteArray):(⟨s.data.toList.toArray⟩:ByteArray)=s:=by
 apply ByteArray.ext;simp
theorem Zcx {s:ByteArray} {a b X:Nat} (h:s.size<=X):(s.extract a b).size<=X:=by simp;omega
theorem appd (a b:ByteArray):(a++b).data.toList=a.data.toList++b.data.toList:=by simp
theorem apps (a b:ByteArray):(a++b).size=a.size+b.size:=by simp
theorem ZF {a b:ByteArray} (h:a.data.toList=b.data.toList):a=b:=by
 apply ByteArray.ext;exact Array.toList_inj.1 h
theorem ZL (s:ByteArray) (k:Nat) (h:k<s.size):s.data.toList[k]?=some s[k]:=by
 rw [List.getElem?_eq_getElem (by simpa using h)];rfl
theorem ZiV (s:ByteArray) (k:Nat) (h:k<s.size):val (s.data.toList.take (k+1))=val (s.data.toList.take k)+s[k].toNat % 128*2 ^ (7*k):=by
 have hl:k<s.data.toList.length:=by simpa using h
 rw [List.take_succ_eq_append_getElem hl,ZjZ,List.length_take,Nat.min_eq_left (by omega),Nat.pow_mul];rfl
def num (s:ByteArray):Nat:=match Zm s.data.toList with | none=>0 | some x=>x.1
def size (s:ByteArray):Nat:=match Zm s.data.toList with | none=>0 | some x=>x.2
def rest (s:ByteArray):ByteArray:=match Zm s.data.toList with | none=>⟨#[]⟩ | some x=>s.extract x.2 s.size
def is (s:ByteArray):Bool:=(Zm s.data.toList).isSome
theorem ZbK {s:ByteArray} (h:Zm s.data.toList=none):rest s=⟨#[]⟩/\is s=false:=by simp [rest,is,h]
theorem ZeH {s:ByteArray} {n k:Nat} (h:Zm s.data.toList=some (n,k)):rest s=s.extract k s.size/\is s=true:=by simp [rest,is,h]
theorem ZaI {s:ByteArray} (h:Zm s.data.toList=none):num s=0/\size s=0:=by simp [num,size,h]
theorem ZbP {s:ByteArray} {n k:Nat} (h:Zm s.data.toList=some (n,k)):num s=n/\size s=k:=by simp [num,size,h]
end Go.Proofs.YtbjbjbpgmojcbacGreat.Nm
namespace Go.Proofs.YtbjbjbpgmojcbacGreat
namespace Im
abbrev B:=List UInt8
def Rd {α:Type} (p:ByteArray->Option (α × ByteArray)) (enc:α->B) (ok:α->Prop):Prop:=∀ s x r,p s=some (x,r) ↔ (ok x/\s.data.toList=enc x++r.data.toList)
theorem Zap (s:ByteArray) (k:Nat):(s.extract k s.size).data.toList=s.data.toList.drop k:=by
 simp only [ByteArray.data_extract,Array.toList_extract];have:s.size=s.data.toList.length:=by simp
 rw [this];simp [List.extract,List.take_of_length_le]
theorem Zbk (s:ByteArray) (k:Nat):(s.extract 0 k).data.toList=s.data.toList.take k:=by
 simp [ByteArray.data_extract,Array.toList_extract,List.extract]
theorem Zq (s:ByteArray):s.size=s.data.toList.length:=by simp
def rNum (s:ByteArray):Option (Nat × ByteArray):=match Nm.Zm s.data.toList with
 | none=>none
 | some (n,k)=>some (n,s.extract k s.size)
theorem ZbD:Rd rNum Nm.nb (fun n=>n<=2147483647):=by
 intro s n r;unfold rNum;constructor
 ·intro h
  cases hf:Nm.Zm s.data.toList with
  | none=>rw [hf] at h;cases h
  | some x =>
   obtain ⟨m,k⟩:=x;rw [hf] at h;simp only [Option.some.injEq,Prod.mk.injEq] at h;obtain ⟨rfl,rfl⟩:=h;obtain ⟨h1,h2,h3,_⟩:=Nm.Zaj hf;refine ⟨h1,?_⟩;rw [Zap,h2,List.take_append_drop]
 ·rintro ⟨h1,h2⟩;have hf:=Nm.Zec n r.data.toList h1;rw [<-h2] at hf;rw [hf];simp only [Option.some.injEq,Prod.mk.injEq,true_and];apply Nm.ZF;rw [Zap,h2];simp
def tb (t:ByteArray):B:=Nm.nb t.size++t.data.toList
def rCnt (m:Nat) (s:ByteArray):Option (ByteArray × ByteArray):=match rNum s with
 | none=>none
 | some (n,r)=>if n<=m/\n<=r.size then some (r.extract 0 n,r.extract n r.size) else none
theorem ZbC (m:Nat):Rd (rCnt m) tb (fun t=>t.size<=2147483647/\t.size<=m):=by
 intro s t r;unfold rCnt;constructor
 ·intro h1
  cases hf:rNum s with
  | none=>rw [hf] at h1;cases h1
  | some x =>
   obtain ⟨k,q⟩:=x;rw [hf] at h1;have h:=(ZbD s k q).1 hf;by_cases hm:k<=m/\k<=q.size
   ·simp only [if_pos hm,Option.some.injEq,Prod.mk.injEq] at h1;obtain ⟨rfl,rfl⟩:=h1;have e:(q.extract 0 k).size=k:=by rw [Zq,Zbk,List.length_take,<-Zq];omega
    refine ⟨⟨by rw [e];exact h.1,by rw [e];exact hm.1⟩,?_⟩;unfold tb;rw [e,Zbk,Zap,h.2,List.append_assoc,List.take_append_drop]
   ·simp only [if_neg hm] at h1;cases h1
 ·rintro ⟨⟨h1,h2⟩,h3⟩;unfold tb at h3
  have hq:∃ q:ByteArray,q.data.toList=t.data.toList++r.data.toList:=⟨⟨(t.data.toList++r.data.toList).toArray⟩,by simp⟩
  obtain ⟨q,hq⟩:=hq;rw [List.append_assoc,<-hq] at h3;rw [(ZbD s t.size q).2 ⟨h1,h3⟩];have hz:t.size<=q.size:=by rw [Zq q,hq,List.length_append,<-Zq];omega
  simp only [if_pos (And.intro h2 hz),Option.some.injEq,Prod.mk.injEq];have el:t.size=t.data.toList.length:=Zq t;constructor
  ·apply Nm.ZF;rw [Zbk,hq,el];simp
  ·apply Nm.ZF;rw [Zap,hq,el];simp
def flat {α:Type} (enc:α->B) (l:List α):B:=l.flatMap enc
theorem Zew {α:Type} (enc:α->B) (l:List α) (x:α):flat enc (l++[x])=flat enc l++enc x:=by simp [flat]
theorem Zny {α β γ:Type} {p:ByteArray->Option (α × ByteArray)} {q:ByteArray->Option (β × ByteArray)} {e1:α->B} {e2:β->B} {o1:α->Prop} {o2:β->Prop} (hp:Rd p e1 o1) (hq:Rd q e2 o2)
 (f:γ->α) (g:γ->β) (mk:α->β->γ) (h1:∀ a b,f (mk a b)=a) (h2:∀ a b,g (mk a b)=b) (h3:∀ c,mk (f c) (g c)=c) :
 Rd (fun s=>match p s with | none=>none | some (a,r)=>match q r with | none=>none | some (b,r2)=>some (mk a b,r2)) (fun c=>e1 (f c)++e2 (g c)) (fun c=>o1 (f c)/\o2 (g c)):=by
 intro s c r;constructor
 ·intro h;simp only at h
  cases ha:p s with
  | none=>rw [ha] at h;cases h
  | some y =>
   obtain ⟨a,r0⟩:=y;rw [ha] at h;simp only at h
   cases hb:q r0 with
   | none=>rw [hb] at h;cases h
   | some z =>
    obtain ⟨b,r1⟩:=z;rw [hb] at h;simp only [Option.some.injEq,Prod.mk.injEq] at h;obtain ⟨rfl,rfl⟩:=h;obtain ⟨a1,a2⟩:=(hp s a r0).1 ha;obtain ⟨b1,b2⟩:=(hq r0 b r1).1 hb;simp only [h1,h2];exact ⟨⟨a1,b1⟩,by rw [a2,b2,List.append_assoc]⟩
 ·rintro ⟨⟨a1,b1⟩,h⟩
  obtain ⟨r0,hr0⟩:∃ q:ByteArray,q.data.toList=e2 (g c)++r.data.toList:=⟨⟨(e2 (g c)++r.data.toList).toArray⟩,by simp⟩
  rw [List.append_assoc,<-hr0] at h;simp only;rw [(hp s (f c) r0).2 ⟨a1,h⟩];simp only;rw [(hq r0 (g c) r).2 ⟨b1,hr0⟩];simp only [h3]
end Im
namespace Tr
def xa (xs:List ByteArray) (i:Nat):ByteArray:=xs.getD i ⟨#[]⟩
def stK (p t:ByteArray):Nat->Bool
 | 0=>false
 | k+1=>stK p t k || decide (k+p.size<=t.size/\t.extract k (k+p.size)=p)
def st (p t:ByteArray):Bool:=stK p t (t.size+1)
theorem ZpC {p t:ByteArray} {k:Nat} (h:stK p t k=true):∀ j,stK p t (k+j)=true:=by
 intro j
 induction j with
 | zero=>exact h
 | succ j ih=>rw [<-Nat.add_assoc,stK,ih,Bool.true_or]
theorem Zif {p t:ByteArray} {k:Nat} (hk:t.size<k+p.size):∀ j,stK p t (k+j)=stK p t k:=by
 intro j
 induction j with
 | zero=>rfl
 | succ j ih=>rw [<-Nat.add_assoc,stK,ih,decide_eq_false (by omega),Bool.or_false]
def ctK (xs:List ByteArray) (p:ByteArray):Nat->Nat
 | 0=>0
 | k+1=>ctK xs p k+(if st p (xa xs k)=true then 1 else 0)
theorem Zjs (xs:List ByteArray) (p:ByteArray):∀ k,ctK xs p k<=k:=by
 intro k
 induction k with
 | zero=>exact nl _
 | succ k ih=>rw [ctK];split <;> omega
def ct (xs:List ByteArray) (p:ByteArray):Nat:=ctK xs p xs.length
theorem ZfG {p t:ByteArray} {k:Nat}:stK p t k=true ↔ ∃ i,i<k/\i+p.size<=t.size/\t.extract i (i+p.size)=p:=by
 induction k with
 | zero=>simp [stK]
 | succ k ih =>
  rw [stK,Bool.or_eq_true,ih,decide_eq_true_iff];constructor
  ·rintro (⟨i,h1,h2⟩ | h)
   ·exact ⟨i,by omega,h2⟩
   ·exact ⟨k,by omega,h⟩
  ·rintro ⟨i,h1,h2⟩;by_cases h:i=k
   ·subst h;exact .inr h2
   ·exact .inl ⟨i,by omega,h2⟩
theorem ZeE {p t:ByteArray}:st p t=true ↔ ∃ i,i+p.size<=t.size/\t.extract i (i+p.size)=p:=by
 rw [st,ZfG];constructor
 ·rintro ⟨i,_,h⟩;exact ⟨i,h⟩
 ·rintro ⟨i,h⟩;exact ⟨i,by omega,h⟩
theorem ZgV {p b d:ByteArray} (h:st p d=true):st p (b++d)=true:=by
 obtain ⟨i,h1,h2⟩:=ZeE.1 h;refine ZeE.2 ⟨b.size+i,by rw [ByteArray.size_append];omega,?_⟩;rw [Nat.add_assoc,ByteArray.extract_append_size_add];exact h2
theorem Zuk (b d:ByteArray):st b (b++d)=true :=
 ZeE.2 ⟨0,by rw [ByteArray.size_append];omega,ByteArray.extract_append_eq_left (by omega)⟩
theorem Zme {xs:List ByteArray} {p:ByteArray}:∀ {k:Nat},1<=ctK xs p k->∃ i,i<k/\st p (xa xs i)=true
 | 0,h=>by simp [ctK] at h
 | k+1,h=>by
  rw [ctK] at h;by_cases hs:st p (xa xs k)=true
  ·exact ⟨k,by omega,hs⟩
  ·rw [if_neg hs] at h;obtain ⟨i,h1,h2⟩:=Zme (k:=k) (by omega);exact ⟨i,by omega,h2⟩
def bl (a b:ByteArray):Bool:=Op.bytesLess a.toList b.toList
theorem ZgQ:∀ (x y:List UInt8),Op.bytesLess x y=decide (x<y)
 | [],[]=>by simp [Op.bytesLess]
 | _ :: _,[]=>by simp [Op.bytesLess]
 | [],_ :: _=>by simp [Op.bytesLess]
 | a :: x,b :: y=>by
  rw [Op.bytesLess,ZgQ x y];simp only [List.cons_lt_cons_iff];by_cases h1:a<b <;> by_cases h2:a=b <;> by_cases h3:x<y <;> simp [h1,h2,h3]
theorem Zbq {a b:ByteArray} (h:a.toList=b.toList):a=b:=by
 rw [ByteArray.toList_eq,ByteArray.toList_eq] at h
 cases a;cases b
 simpa using h
theorem ZcA (a:ByteArray):bl a a=false:=by rw [bl,ZgQ];exact decide_eq_false (List.lt_irrefl _)
theorem ZcO {a b c:ByteArray} (h1:bl a b=true) (h2:bl b c=true):bl a c=true:=by
 rw [bl,ZgQ,decide_eq_true_iff] at *;exact List.lt_trans h1 h2
theorem Zfz {a b:ByteArray} (h1:bl a b=false) (h2:bl b a=false):a=b:=by
 rw [bl,ZgQ,decide_eq_false_iff_not] at *;exact Zbq (List.le_antisymm h2 h1)
theorem ZjN:∀ (x y:List UInt8),decide (Lib.compareBytes x y<0)=decide (x<y)
 | [],[]=>by simp [Lib.compareBytes]
 | _ :: _,[]=>by simp [Lib.compareBytes]
 | [],_ :: _=>by simp [Lib.compareBytes]
 | a :: x,b :: y=>by
  rw [Lib.compareBytes];simp only [List.cons_lt_cons_iff];have ih:=ZjN x y;by_cases h1:a<b
  ·simp [h1]
  ·by_cases h2:b<a
   ·have h3:a ≠ b:=by rintro rfl;exact h1 h2
    simp [h1,h2,h3]
   ·have h3:a=b:=UInt8.le_antisymm (UInt8.not_lt.1 h2) (UInt8.not_lt.1 h1);subst h3;simpa [List.lt_irrefl] using ih
theorem Znn (a b:ByteArray):decide (Lib.compareBytes a.data.toList b.data.toList<0)=bl a b:=by
 rw [ZjN,bl,ZgQ,ByteArray.toList_eq,ByteArray.toList_eq]
def lt (xs:List ByteArray) (a b:ByteArray):Bool:=decide (ct xs b<ct xs a) || (ct xs a == ct xs b && bl a b)
theorem ZqM (xs:List ByteArray) (a:ByteArray):lt xs a a=false:=by simp [lt,ZcA]
theorem lt_trans {xs:List ByteArray} {a b c:ByteArray} (h1:lt xs a b=true) (h2:lt xs b c=true):lt xs a c=true:=by
 simp only [lt,Bool.or_eq_true,decide_eq_true_iff,Bool.and_eq_true,beq_iff_eq] at *;rcases h1 with h1 | ⟨e1,h1⟩ <;> rcases h2 with h2 | ⟨e2,h2⟩
 ·left;omega
 ·left;omega
 ·left;omega
 ·right;exact ⟨by omega,ZcO h1 h2⟩
theorem ZiI {xs:List ByteArray} {a b:ByteArray} (h1:lt xs a b=true):lt xs b a=false:=by
 cases h:lt xs b a with
 | false=>rfl
 | true=>have:=lt_trans h1 h;rw [ZqM] at this;cases this
theorem ZdL {xs:List ByteArray} {a b:ByteArray} (h1:lt xs a b=false) (h2:lt xs b a=false):a=b:=by
 simp only [lt,Bool.or_eq_false_iff,decide_eq_false_iff_not,Bool.and_eq_false_iff] at h1 h2;have e:ct xs a=ct xs b:=by omega
 refine Zfz ?_ ?_
 ·rcases h1.2 with h | h
  ·simp [e] at h
  ·exact h
 ·rcases h2.2 with h | h
  ·simp [e] at h
  ·exact h
theorem ZgF {xs:List ByteArray} {a b c:ByteArray} (h1:lt xs a b=false) (h2:lt xs b c=false):lt xs a c=false:=by
 cases h:lt xs a c with
 | false=>rfl
 | true =>
  cases hb:lt xs b a with
  | true=>rw [lt_trans hb h] at h2;cases h2
  | false=>rw [ZdL h1 hb,h2] at h;cases h
def pc (t:ByteArray) (k:Nat):ByteArray:=t.extract k (k+4)
def bs (xs:List ByteArray) (d:ByteArray) (a:ByteArray × Nat) (p:ByteArray):ByteArray × Nat :=
 if (decide (a.2<ct xs p) || (ct xs p == a.2 && decide (1<ct xs p) && bl p a.1)) && !st p d then (p,ct xs p) else a
def bsR (xs:List ByteArray) (d t:ByteArray) (a:ByteArray × Nat):Nat->ByteArray × Nat
 | 0=>a
 | k+1=>bs xs d (bsR xs d t a k) (pc t k)
def bsT (xs:List ByteArray) (d:ByteArray):Nat->ByteArray × Nat
 | 0=>(⟨#[]⟩,1)
 | i+1=>bsR xs d (xa xs i) (bsT xs d i) ((xa xs i).size - 3)
def best (xs:List ByteArray) (d:ByteArray):ByteArray:=(bsT xs d xs.length).1
def tro (xs:List ByteArray) (size:Nat):Nat->ByteArray->ByteArray
 | 0,d=>d
 | f+1,d=>if d.size+4<=size then (if (best xs d).size=0 then d else tro xs size f (best xs d++d)) else d
def trn (xs:List ByteArray) (size:Nat):ByteArray:=tro xs size 65 ⟨#[]⟩
def ok (xs:List ByteArray) (d p:ByteArray):Prop:=2<=ct xs p/\st p d=false
def Inv (xs:List ByteArray) (d:ByteArray) (S:ByteArray->Prop) (a:ByteArray × Nat):Prop :=
 (a=(⟨#[]⟩,1)/\∀ p,S p->¬ ok xs d p)\/(S a.1/\ok xs d a.1/\a.2=ct xs a.1/\∀ p,S p->ok xs d p->p=a.1\/lt xs a.1 p=true)
theorem Inv.step {xs:List ByteArray} {d:ByteArray} {S:ByteArray->Prop} {a:ByteArray × Nat} (h:Inv xs d S a) (p:ByteArray):Inv xs d (fun q=>S q\/q=p) (bs xs d a p):=by
 unfold bs;rcases h with ⟨rfl,h⟩ | ⟨h1,h2,h3,h4⟩
 ·split
  ·rename_i hc
   simp only [Bool.and_eq_true,Bool.or_eq_true,decide_eq_true_iff,Bool.not_eq_true',beq_iff_eq] at hc
   right
   refine ⟨.inr rfl,⟨by show 2<=ct xs p;omega,hc.2⟩,rfl,?_⟩;rintro q (hq | hq) hk
   ·exact absurd hk (h q hq)
   ·exact .inl hq
  ·rename_i hc
   left
   refine ⟨rfl,?_⟩;rintro q (hq | rfl) ⟨k1,k2⟩
   ·exact h q hq ⟨k1,k2⟩
   ·apply hc;simp [k2];left;omega
 ·split
  ·rename_i hc
   simp only [Bool.and_eq_true,Bool.or_eq_true,decide_eq_true_iff,Bool.not_eq_true',beq_iff_eq] at hc
   right
   have hlt:lt xs p a.1=true:=by
    simp only [lt,Bool.or_eq_true,decide_eq_true_iff,Bool.and_eq_true,beq_iff_eq];rcases hc.1 with hc | hc
    ·left;omega
    ·right;exact ⟨by omega,hc.2⟩
   refine ⟨.inr rfl,⟨by have:=h2.1;show 2<=ct xs p;omega,hc.2⟩,rfl,?_⟩;rintro q (hq | hq) hk
   ·right
    rcases h4 q hq hk with rfl | h5
    ·exact hlt
    ·exact lt_trans hlt h5
   ·exact .inl hq
  ·rename_i hc
   right
   refine ⟨.inl h1,h2,h3,?_⟩;rintro q (hq | rfl) hk
   ·exact h4 q hq hk
   ·cases h5:lt xs a.1 q with
    | true=>exact .inr rfl
    | false =>
     left
     refine ZdL ?_ h5
     cases h6:lt xs q a.1 with
     | false=>rfl
     | true =>
      exfalso;apply hc
      simp only [lt,Bool.or_eq_true,decide_eq_true_iff,Bool.and_eq_true,beq_iff_eq] at h6;have:=hk.1;rcases h6 with h6 | h6
      ·simp [hk.2];left;omega
      ·simp [hk.2];right;exact ⟨⟨by omega,by omega⟩,h6.2⟩
theorem Inv.mono {xs:List ByteArray} {d:ByteArray} {S T:ByteArray->Prop} {a:ByteArray × Nat} (h:Inv xs d S a) (hST:∀ p,S p ↔ T p):Inv xs d T a:=by
 rw [show S=T from funext fun p=>propext (hST p)] at h;exact h
theorem Zom {xs:List ByteArray} {d t:ByteArray} {S:ByteArray->Prop} {a:ByteArray × Nat} (h:Inv xs d S a):∀ k,Inv xs d (fun p=>S p\/∃ i,i<k/\p=pc t i) (bsR xs d t a k)
 | 0=>h.mono fun p=>by simp
 | k+1=>((Zom h k).step (pc t k)).mono fun p=>by
  constructor
  ·rintro ((h | ⟨i,h1,h2⟩) | rfl)
   ·exact .inl h
   ·exact .inr ⟨i,by omega,h2⟩
   ·exact .inr ⟨k,by omega,rfl⟩
  ·rintro (h | ⟨i,h1,h2⟩)
   ·exact .inl (.inl h)
   ·by_cases e:i=k
    ·subst e;exact .inr h2
    ·exact .inl (.inr ⟨i,by omega,h2⟩)
theorem Zms {xs:List ByteArray} {d:ByteArray}:∀ k,Inv xs d (fun p=>∃ j,j<k/\∃ i,i<(xa xs j).size - 3/\p=pc (xa xs j) i) (bsT xs d k)
 | 0=>.inl ⟨rfl,by rintro p ⟨j,h,_⟩;omega⟩
 | k+1=>(Zom (Zms k) _).mono fun p=>by
  constructor
  ·rintro (⟨j,h1,h2⟩ | h)
   ·exact ⟨j,by omega,h2⟩
   ·exact ⟨k,by omega,h⟩
  ·rintro ⟨j,h1,h2⟩;by_cases e:j=k
   ·subst e;exact .inr h2
   ·exact .inl ⟨j,by omega,h2⟩
theorem Zeh {t:ByteArray} {i:Nat} (h:i<t.size - 3):(pc t i).size=4:=by rw [pc,ByteArray.size_extract];omega
theorem seen {xs:List ByteArray} {p:ByteArray} (h4:p.size=4) (h:1<=ct xs p):∃ j,j<xs.length/\∃ i,i<(xa xs j).size - 3/\p=pc (xa xs j) i:=by
 obtain ⟨j,h1,h2⟩:=Zme h;obtain ⟨i,h3,h5⟩:=ZeE.1 h2;rw [h4] at h3 h5;exact ⟨j,h1,i,by omega,h5.symm⟩
theorem Zcp (xs:List ByteArray) (d:ByteArray) :
 ((best xs d)=⟨#[]⟩/\∀ p,p.size=4->¬ ok xs d p)\/((best xs d).size=4/\ok xs d (best xs d)/\∀ p,p.size=4->ok xs d p->p=best xs d\/lt xs (best xs d) p=true):=by
 rcases Zms (xs:=xs) (d:=d) xs.length with ⟨h1,h2⟩ | ⟨⟨j,h1,i,h2,h3⟩,h4,h5,h6⟩
 ·left
  refine ⟨by rw [best,h1],fun p hp hk=>h2 p (seen hp (by have:=hk.1;omega)) hk⟩
 ·right
  refine ⟨by rw [best,h3];exact Zeh h2,h4,fun p hp hk=>h6 p (seen hp (by have:=hk.1;omega)) hk⟩
theorem ZlG {xs:List ByteArray} {d:ByteArray} (h:∀ p,p.size=4->¬ ok xs d p):(best xs d).size=0:=by
 rcases Zcp xs d with ⟨h1,_⟩ | ⟨h1,h2,_⟩
 ·rw [h1];rfl
 ·exact absurd h2 (h _ h1)
theorem Zrl {xs:List ByteArray} {d b:ByteArray} (h4:b.size=4) (hb:ok xs d b) (h:∀ p,p.size=4->ok xs d p->p=b\/lt xs b p=true):best xs d=b:=by
 rcases Zcp xs d with ⟨_,h2⟩ | ⟨h1,h2,h3⟩
 ·exact absurd hb (h2 b h4)
 ·rcases h _ h1 h2 with h5 | h5
  ·exact h5
  ·rcases h3 _ h4 hb with h6 | h6
   ·exact h6.symm
   ·rw [ZiI h5] at h6;cases h6
def Rk (xs L:List ByteArray):Prop:=L.Pairwise (fun a b=>lt xs a b=true)/\∀ p,p ∈ L ↔ p.size=4/\2<=ct xs p
theorem ZoZ {xs L:List ByteArray} {d:ByteArray} (h:Rk xs L) {i:Nat} (hi:i<L.length) (hs:st L[i] d=false) (ha:∀ k,(hk:k<i)->st (L[k]'(by omega)) d=true):best xs d=L[i]:=by
 have hm:=(h.2 L[i]).1 (gM hi);refine Zrl hm.1 ⟨hm.2,hs⟩ fun p hp hk=>?_
 obtain ⟨k,hk1,rfl⟩:=List.mem_iff_getElem.1 ((h.2 p).2 ⟨hp,hk.1⟩);by_cases e1:k<i
 ·have:=ha k e1;rw [hk.2] at this;cases this
 ·by_cases e2:k=i
  ·subst e2;exact .inl rfl
  ·exact .inr (List.pairwise_iff_getElem.1 h.1 i k hi hk1 (by omega))
theorem ZsP {xs L:List ByteArray} {d:ByteArray} (h:Rk xs L) (ha:∀ k,(hk:k<L.length)->st L[k] d=true):(best xs d).size=0:=by
 refine ZlG fun p hp hk=>?_
 obtain ⟨k,hk1,rfl⟩:=List.mem_iff_getElem.1 ((h.2 p).2 ⟨hp,hk.1⟩);have:=ha k hk1;rw [hk.2] at this;cases this
structure Good (xs:List ByteArray) (size:Nat) (d:ByteArray):Prop where
 four:d.size % 4=0
 most:d.size<=size
 twice:∀ x,x<d.size / 4->2<=ct xs (d.extract (4*x) (4*x+4))
 apart:∀ x y,x<d.size / 4->y<d.size / 4->x ≠ y->d.extract (4*x) (4*x+4) ≠ d.extract (4*y) (4*y+4)
theorem Zgi {b d:ByteArray} (hb:b.size=4):(b++d).extract (4*0) (4*0+4)=b:=ByteArray.extract_append_eq_left (by omega)
theorem Zcy {b d:ByteArray} (hb:b.size=4) (x:Nat):(b++d).extract (4*(x+1)) (4*(x+1)+4)=d.extract (4*x) (4*x+4):=by
 rw [show 4*(x+1)+4=b.size+(4*x+4) by omega,show 4*(x+1)=b.size+4*x by omega,ByteArray.extract_append_size_add]
theorem Good.step {xs:List ByteArray} {size:Nat} {b d:ByteArray} (h:Good xs size d) (hb:b.size=4) (hk:ok xs d b) (hs:d.size+4<=size):Good xs size (b++d):=by
 have e:(b++d).size=d.size+4:=by rw [ByteArray.size_append];omega
 have h0:=h.four;have hd:(d.size+4) / 4=d.size / 4+1:=by omega
 have hne:∀ x,x<d.size / 4->b ≠ d.extract (4*x) (4*x+4):=by
  intro x hx he;have:st b d=true:=ZeE.2 ⟨4*x,by omega,by rw [hb];exact he.symm⟩;rw [hk.2] at this;cases this
 refine ⟨by omega,by omega,?_,?_⟩
 ·rw [e,hd];intro x hx
  cases x with
  | zero=>rw [Zgi hb];exact hk.1
  | succ x=>rw [Zcy hb];exact h.twice x (by omega)
 ·rw [e,hd];intro x y hx hy hxy
  cases x with
  | zero =>
   cases y with
   | zero=>omega
   | succ y=>rw [Zgi hb,Zcy hb];exact hne y (by omega)
  | succ x =>
   cases y with
   | zero=>rw [Zgi hb,Zcy hb];exact (hne x (by omega)).symm
   | succ y=>rw [Zcy hb,Zcy hb];exact h.apart x y (by omega) (by omega) (by omega)
theorem Zjb {xs:List ByteArray} {size:Nat}:∀ f {d:ByteArray},Good xs size d->Good xs size (tro xs size f d)
 | 0,d,h=>h
 | f+1,d,h=>by
  rw [tro];split
  ·rename_i hs
   split
   ·exact h
   ·rename_i hz
    rcases Zcp xs d with ⟨h1,_⟩ | ⟨h1,h2,_⟩
    ·rw [h1] at hz;exact absurd rfl hz
    ·exact Zjb f (h.step h1 h2 hs)
  ·exact h
theorem Zge (xs:List ByteArray) (size:Nat):Good xs size (trn xs size) :=
 Zjb 65 ⟨rfl,Nat.zero_le _,fun x hx=>absurd hx (by show ¬ x<0 / 4;omega),fun x _ hx=>absurd hx (by show ¬ x<0 / 4;omega)⟩
theorem Zjk {xs:List ByteArray} {size f:Nat} {d:ByteArray} (hs:d.size+4<=size) (hb:(best xs d).size=4):tro xs size (f+1) d=tro xs size f (best xs d++d):=by
 rw [tro,if_pos hs,if_neg (by omega)]
theorem ZfO {xs:List ByteArray} {size f:Nat} {d:ByteArray} (hb:(best xs d).size=0):tro xs size f d=d:=by
 cases f with
 | zero=>rfl
 | succ f=>rw [tro,if_pos hb];split <;> rfl
theorem ZiJ {xs:List ByteArray} {size f:Nat} {d:ByteArray} (hs:size<d.size+4):tro xs size f d=d:=by
 cases f with
 | zero=>rfl
 | succ f=>rw [tro,if_neg (by omega)]
end Tr
open Go.RowKit
theorem bch {B:Nat} {a b c:World} (h1:Below B a b) (h2:Below b.heap.size b c) (hB:B<=a.heap.size):Below B a c:=h1.trans (h2.mono (Nat.le_trans hB h1.size))
end Go.Proofs.YtbjbjbpgmojcbacGreat
namespace Go.Proofs
open Go.Shelf
def Tryz.laysM316_ren:Go.Shelf.Ren:=⟨fun | 316=>69 | n=>n,fun | 9=>9 | 3=>3 | 4=>4 | 37=>77 | 0=>0 | 127=>126 | 5=>5 | n=>n,fun | n=>n⟩
theorem Tryz.laysM316:Go.Proofs.LaysM.n316 Tryz.prog Tryz.laysM316_ren:={
 mixed:=by kernel_rfl
 f316:=Tryz.func69.trans (congrArg some (by kernel_rfl))
 t0:=Tryz.underlying0
 a0:=Tryz.isAgg0
 z0:=Tryz.sizeOf0
 v0:=Tryz.zeroValue0
 t3:=Tryz.underlying3
 a3:=Tryz.isAgg3
 z3:=Tryz.sizeOf3
 v3:=Tryz.zeroValue3
 t4:=Tryz.underlying4
 a4:=Tryz.isAgg4
 z4:=Tryz.sizeOf4
 v4:=Tryz.zeroValue4
 t9:=Tryz.underlying9
 a9:=Tryz.isAgg9
 z9:=Tryz.sizeOf9
 v9:=Tryz.zeroValue9
 t37:=Tryz.underlying77
 a37:=Tryz.isAgg77
 z37:=Tryz.sizeOf77
 v37:=Tryz.zeroValue77
 t127:=Tryz.underlying126
 a127:=Tryz.isAgg126
 z127:=Tryz.sizeOf126
 v127:=Tryz.zeroValue126
 t5:=Tryz.underlying5
 a5:=Tryz.isAgg5
 z5:=Tryz.sizeOf5
 v5:=Tryz.zeroValue5
 i0:=by kernel_rfl
 i3:=by kernel_rfl
 i4:=by kernel_rfl
 i5:=by kernel_rfl
 i9:=by kernel_rfl
 i37:=by kernel_rfl
 i127:=by kernel_rfl }
open Go.RowKit in
theorem Tryz.stringslite_Clone (s:ByteArray) (w:World) (hlim:s.size<=281474976710656) :
 Calls Tryz.prog 69 #[.string s] w fun e w'=>e=.returned (.string s)/\Below w.heap.size w w':=Any.stringslite_Clone Tryz.laysM316 s w hlim
end Go.Proofs
namespace Go.Proofs.YtbjbjbpgmojcbacGreat
open Go.RowKit
theorem ZM (s:ByteArray) (w:World) (h:s.size<=281474976710656) :
 Calls Tryz.prog 35 #[.string s] w fun e w'=>e=.returned (.string s)/\Below w.heap.size w w':=by
 go_enter Tryz.func35,Tryz.ntmps35
 go_wp2_with (go_at_call 69;refine (Tryz.stringslite_Clone _ _ h).mono ?_;rintro e w' ⟨rfl,hb⟩)
 go_ret
 exact ⟨rfl,hb⟩
theorem Ztr {W w1:World} (hb:Below W.heap.size W w1):∀ b o,b<W.heap.size->w1.cell? ⟨b,o,none⟩=W.cell? ⟨b,o,none⟩ :=
 fun b o h=>hb.cell (p:=⟨b,o,none⟩) h
set_option maxRecDepth 100000 in
theorem ZbF (s:ByteArray) (w:World) (hs:s.size<=maxLen) :
 Calls Tryz.prog 171 #[.string s] w fun e w'=>e=.returned (.tuple #[.int .i64 (Nm.num s:Nat),.int .i64 (Nm.size s:Nat)])/\w'=w:=by
 have hs2:(s.size:Int)<=9223372036854775807:=by unfold maxLen at hs;omega
 clear hs
 obtain ⟨lim,hlim⟩:∃ lim:Nat,min (s.size:Int) 5=(lim:Int):=⟨min s.size 5,by omega⟩
 have hl1:lim<=s.size:=by omega
 have hl2:lim<=5:=by omega
 have hl3:Hid (lim=s.size\/lim=5):=by show _\/_;omega
 go_enter Tryz.func171,Tryz.ntmps171
 go_wp2
 clear hlim;go_loop [4,9] (fun n i=>∃ k:Nat,k<=lim/\i=.int .i64 k/\n=.int .u64 (Nm.val (s.data.toList.take k):Nat)/\Hid (∀ j,j<k->∀ b,s.data.toList[j]?=some b->128<=b.toNat)) (fun _ i=>5 - (intOf i).toNat)
 case atStart=>exact ⟨0,by omega,rfl,rfl,fun j h=>by omega⟩
 case round =>
  obtain ⟨k,hk,rfl,rfl,hall⟩:=hrel;have hvl:=Nm.Zqt (s.data.toList.take k);generalize hm:Nm.val (s.data.toList.take k)=m at *;have Hm:Hid (Nm.val (s.data.toList.take k)=m):=hm;clear hm;by_cases hlt:k<lim
  ·have hmb:(m:Int)<268435456:=by
    have h3:(s.data.toList.take k).length<=4:=by rw [List.length_take];omega
    have h4:128 ^ (s.data.toList.take k).length<=128 ^ 4:=Nat.pow_le_pow_right (by omega) h3;omega
   clear hvl;have h1:k<s.size:=by omega
   obtain ⟨x,hx⟩:∃ x:Int,(s[k].toNat:Int)=x:=⟨_,rfl⟩
   have hx0:0<=x:=by omega
   have hx1:x<=255:=by have:=s[k].toNat_lt;omega
   have hp:(2:Int) ^ (7*k)<=2 ^ 28:=by
    have:k=0\/k=1\/k=2\/k=3\/k=4:=by omega
    rcases this with rfl | rfl | rfl | rfl | rfl <;> decide
   have hp0:(0:Int)<2 ^ (7*k):=Int.pow_pos (by omega)
   obtain ⟨y,hy⟩:∃ y:Int,x % 128*2 ^ (7*k)=y:=⟨_,rfl⟩
   have hy0:0<=y:=by rw [<-hy];exact Int.mul_nonneg (by omega) (by omega)
   have hy1:y<=34359738368:=by
    rw [<-hy];have h9:x % 128*2 ^ (7*k)<=128*2 ^ 28:=Int.mul_le_mul (by omega) hp (by omega) (by omega);have h8:(128*2 ^ 28:Int)=34359738368:=by decide
    omega
   clear hp hp0
   have Hv:Hid ((Nm.val (s.data.toList.take (k+1)):Int)=(m:Int)+y):=by
    show (Nm.val (s.data.toList.take (k+1)):Int)=(m:Int)+y;rw [Nm.ZiV s k h1,Hm.out,<-hy,<-hx];simp
   have Hx:Hid ((s[k].toNat:Int)=x):=hx;by_cases hb:128<=x
   ·go_wp2
    go_round
    case rel =>
     refine ⟨k+1,by omega,by go_num,by rw [<-Hv.out],?_⟩;show ∀ j,_;intro j hj b hjb;by_cases hjk:j=k
     ·subst hjk;rw [Nm.ZL s j h1] at hjb;simp only [Option.some.injEq] at hjb;subst hjb;have:=Hx.out;omega
     ·exact hall.out j (by omega) b hjb
    case measure=>simp [intOf];omega
   ·have hf:=Nm.Zsc s.data.toList k s[k] (by omega) (Nm.ZL s k h1) (by omega) hall.out;have Hf:Hid (Nm.Zm s.data.toList=if (s[k]=0/\0<k)\/2147483647<Nm.val (s.data.toList.take (k+1)) then none else some (Nm.val (s.data.toList.take (k+1)),k+1)):=hf;clear hf;by_cases hA:x=0/\0<k
    ·have hk':(0:Int)<(k:Int):=by omega
     have HF:Hid (Nm.num s=0/\Nm.size s=0):=by
      refine Nm.ZaI ?_;rw [Hf.out,if_pos]
      left
      exact ⟨by apply UInt8.toNat_inj.1;have:=Hx.out;simp;omega,hA.2⟩
     obtain ⟨rfl,hA2⟩:=hA;obtain rfl:y=0:=by rw [<-hy];simp
     have hd:decide (0<k)=true:=by simpa using hA2
     clear hy;go_wp2
     go_ret2
     exact ⟨by rw [HF.out.1,HF.out.2];rfl,rfl⟩
    ·by_cases hbig:2147483647<(m:Int)+y
     ·have HF:Hid (Nm.num s=0/\Nm.size s=0):=by
       refine Nm.ZaI ?_;rw [Hf.out,if_pos]
       right
       have:=Hv.out;omega
      by_cases hz:x=0
      ·exfalso
       obtain rfl:k=0:=by omega
       have h0:=Hm.out;simp [Nm.val] at h0;subst hz;simp at hy;omega
      ·have hz':(x == 0)=false:=by simp [hz]
       clear hA hz;go_wp2
       go_ret2
       exact ⟨by rw [HF.out.1,HF.out.2];rfl,rfl⟩
     ·have HF:Hid ((Nm.num s:Int)=(m:Int)+y/\Nm.size s=k+1):=by
       have h7:Nm.Zm s.data.toList=some (Nm.val (s.data.toList.take (k+1)),k+1):=by
        rw [Hf.out,if_neg];rintro (h | h)
        ·refine hA ⟨?_,h.2⟩;have:=Hx.out;rw [h.1] at this;simpa using this.symm
        ·have:=Hv.out;omega
       have h8:=Nm.ZbP h7;refine ⟨?_,h8.2⟩;rw [h8.1];exact Hv.out
      by_cases hz:x=0
      ·obtain rfl:k=0:=by omega
       subst hz;obtain rfl:y=0:=by rw [<-hy];simp
       obtain rfl:m=0:=by have h0:=Hm.out;simpa [Nm.val] using h0.symm
       clear hA hy;go_wp2
       go_ret2
       exact ⟨by rw [HF.out.1,HF.out.2];rfl,rfl⟩
      ·have hz':(x == 0)=false:=by simp [hz]
       clear hA hz;go_wp2
       go_ret2
       exact ⟨by rw [HF.out.1,HF.out.2];rfl,rfl⟩
  ·have HF:Hid (Nm.num s=0/\Nm.size s=0):=by
    refine Nm.ZaI (Nm.Zgq _ ?_);intro j hj b hjb;refine hall.out j ?_ b hjb
    have:j<s.size:=by
     rcases Nat.lt_or_ge j s.size with h | h
     ·exact h
     ·rw [List.getElem?_eq_none (by simpa using h)] at hjb;simp at hjb
    have:=hl3.out;omega
   clear hvl;go_wp2
   go_ret2
   exact ⟨by rw [HF.out.1,HF.out.2];rfl,rfl⟩
end Go.Proofs.YtbjbjbpgmojcbacGreat
