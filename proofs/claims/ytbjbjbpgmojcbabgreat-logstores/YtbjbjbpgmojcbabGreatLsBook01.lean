/- A part of the proof: what it leans on. -/
import Derived.Lib.IndexMore
import Derived.Lib.Bytealg
import GoSem.Op.String
import Derived.Below
import Derived.Shelf.LaysM
import Derived.Shelf.Strconv.Clone
import Derived.Test.YtbjbjbpgmojcbabGreatProg
import Derived.WalkKit
import Derived.WalkSpells
import Derived.WalkLawsBesides
import Derived.Deep.RegionHeld3
import Derived.Deep.RegionWith
import Derived.Deep.AppendLies
import Derived.Laws.IdiomStrings
import Derived.Lib.BufferRead
import Derived.BigQuiet
import Derived.Deep.QuietTactic
import Derived.Deep.WholeRow
import Derived.Deep.MidRow
namespace Go.Proofs.YtbjbjbpgmojcbabGreat
abbrev rC:=@AllReadyH.cons
abbrev rN:=@AllReadyH.nil
abbrev aG:=@Array.getElem?_eq_some_iff
abbrev zhS:=@Go.RowKit.Below.heap_setCell
abbrev bR:=@Go.RowKit.Below.refl
abbrev gM:=@List.getElem_mem
abbrev lZ:=@List.length_eq_zero_iff
abbrev nL:=@Nat.le_of_lt
abbrev nl:=@Nat.le_refl
abbrev nt:=@Nat.le_trans
abbrev nT:=@Nat.lt_of_lt_of_le
abbrev U127:=@Tryz.underlying127
abbrev U131:=@Tryz.underlying131
abbrev U140:=@Tryz.underlying140
abbrev U160:=@Tryz.underlying160
abbrev U173:=@Tryz.underlying173
abbrev U191:=@Tryz.underlying191
abbrev U202:=@Tryz.underlying202
abbrev U205:=@Tryz.underlying205
abbrev U22:=@Tryz.underlying22
abbrev U23:=@Tryz.underlying23
abbrev zU3:=@Tryz.underlying3
abbrev U5:=@Tryz.underlying5
abbrev U60:=@Tryz.underlying60
abbrev U9:=@Tryz.underlying9
abbrev U93:=@Tryz.underlying93
abbrev cL:=@World.block_lt_of_cell?
abbrev cA:=@World.cell?_alloc_lt
abbrev cN:=@World.cell?_alloc_new
abbrev cB:=@World.cell?_of_block
abbrev cO:=@World.cell?_setCell_other
abbrev cS:=@World.cell?_setCell_same
abbrev fN:=@World.frozen?_alloc_at
abbrev fB:=@World.frozen?_of_block
abbrev dF:=@decide_eq_false
abbrev zdT:=@decide_eq_true
abbrev zsL:=@step_append_lies
abbrev wY:=@wpAnyH_ready
abbrev wK:=@wpAnyH_take
abbrev zwL:=@wpList_append_lies
end Go.Proofs.YtbjbjbpgmojcbabGreat
set_option maxRecDepth 100000
set_option maxHeartbeats 2000000
namespace Go.Proofs.YtbjbjbpgmojcbabGreat.Nm
def nbGo:Nat->Nat->List UInt8
 | 0,n=>[UInt8.ofNat n]
 | f+1,n=>if n<128 then [UInt8.ofNat n] else UInt8.ofNat (128+n % 128) :: nbGo f (n / 128)
def nb (n:Nat):List UInt8:=nbGo n n
theorem Zoi:∀ (f g n:Nat),n<=f->n<=g->nbGo f n=nbGo g n:=by
 intro f
 induction f with
 | zero =>
  intro g n hf hg;have:n=0:=by omega
  subst this
  cases g <;> simp [nbGo]
 | succ f ih =>
  intro g n hf hg
  cases g with
  | zero =>
   have:n=0:=by omega
   subst this;simp [nbGo]
  | succ g =>
   simp only [nbGo];by_cases h:n<128
   ·simp [h]
   ·simp only [h,if_false];rw [ih g (n / 128) (by omega) (by omega)]
theorem ZdS {n:Nat} (h:n<128):nb n=[UInt8.ofNat n]:=by
 unfold nb
 cases n with
 | zero=>rfl
 | succ n=>simp [nbGo,h]
theorem ZgV {n:Nat} (h:128<=n):nb n=UInt8.ofNat (128+n % 128) :: nb (n / 128):=by
 unfold nb
 obtain ⟨m,rfl⟩:∃ m,n=m+1:=⟨n - 1,by omega⟩
 rw [nbGo,if_neg (by omega),Zoi m ((m+1) / 128) ((m+1) / 128) (by omega) (by omega)]
theorem Zql (n:Nat):nb n ≠ []:=by
 by_cases h:n<128
 ·rw [ZdS h];simp
 ·rw [ZgV (by omega)];simp
theorem ZcI:∀ (k n:Nat),n<128 ^ (k+1)->(nb n).length<=k+1:=by
 intro k
 induction k with
 | zero=>intro n h;rw [ZdS (by simpa using h)];simp
 | succ k ih =>
  intro n h;by_cases h2:n<128
  ·rw [ZdS h2];simp
  ·rw [ZgV (by omega),List.length_cons]
   have:=ih (n / 128) (by
    rw [Nat.pow_succ] at h
    exact (Nat.div_lt_iff_lt_mul (by omega)).2 h)
   omega
theorem Zt (n:Nat) (h:n<=2147483647):(nb n).length<=5:=ZcI 4 n (by omega)
theorem ZlW (n:Nat):1<=(nb n).length:=by
 have:=Zql n
 cases h:nb n with
 | nil=>exact absurd h this
 | cons a l=>simp
def val:List UInt8->Nat
 | []=>0
 | b :: t=>b.toNat % 128+128*val t
theorem Zjj (p:List UInt8) (b:UInt8):val (p++[b])=val p+b.toNat % 128*128 ^ p.length:=by
 induction p with
 | nil=>simp [val]
 | cons a p ih =>
  simp only [List.cons_append,val,ih,List.length_cons,Nat.pow_succ,Nat.mul_add]
  rw [show b.toNat % 128*(128 ^ p.length*128)=128*(b.toNat % 128*128 ^ p.length) by
   rw [<-Nat.mul_assoc,Nat.mul_comm]]
  omega
theorem ZrC (p:List UInt8):val p<128 ^ p.length:=by
 induction p with
 | nil=>simp [val]
 | cons a p ih =>
  simp only [val,List.length_cons,Nat.pow_succ];have:a.toNat % 128<128:=Nat.mod_lt _ (by omega);omega
def pre:Nat->List UInt8->Option (List UInt8)
 | 0,_=>none
 | _+1,[]=>none
 | k+1,b :: t=>if b.toNat<128 then some [b] else (pre k t).map (b :: ·)
theorem ZqF:∀ (k:Nat) (l:List UInt8),(∀ j,j<k->∀ b,l[j]?=some b->128<=b.toNat)->pre k l=none:=by
 intro k
 induction k with
 | zero=>intro l _;cases l <;> rfl
 | succ k ih =>
  intro l h
  cases l with
  | nil=>rfl
  | cons b t =>
   have hb:=h 0 (by omega) b rfl;rw [pre,if_neg (by omega),ih t (fun j hj c hc=>h (j+1) (by omega) c (by simpa using hc))];rfl
theorem Zkf:∀ (k i:Nat) (l:List UInt8) (b:UInt8),i<k->l[i]?=some b->b.toNat<128 →
 (∀ j,j<i->∀ c,l[j]?=some c->128<=c.toNat)->pre k l=some (l.take (i+1)):=by
 intro k
 induction k with
 | zero=>intro i l b h;omega
 | succ k ih =>
  intro i l b hi hb hlt h
  cases l with
  | nil=>simp at hb
  | cons c t =>
   cases i with
   | zero =>
    simp at hb;subst hb;simp [pre,hlt]
   | succ i =>
    have hc:=h 0 (by omega) c rfl;rw [pre,if_neg (by omega),ih i t b (by omega) (by simpa using hb) hlt (fun j hj d hd=>h (j+1) (by omega) d (by simpa using hd))];rfl
def Zl (l:List UInt8):Option (Nat × Nat) :=
 match pre 5 l with
 | none=>none
 | some p=>if val p<=2147483647/\nb (val p)=p then some (val p,p.length) else none
theorem ZoH:∀ (k:Nat) (l p:List UInt8),pre k l=some p →
 ∃ q b,p=q++[b]/\b.toNat<128/\(∀ c ∈ q,128<=c.toNat)/\l=p++l.drop p.length/\p.length<=k:=by
 intro k
 induction k with
 | zero=>intro l p h;simp [pre] at h
 | succ k ih =>
  intro l p h
  cases l with
  | nil=>simp [pre] at h
  | cons b t =>
   by_cases hb:b.toNat<128
   ·simp [pre,hb] at h;subst h;exact ⟨[],b,rfl,hb,by simp,by simp,by simp⟩
   ·rw [pre,if_neg hb] at h
    cases hp:pre k t with
    | none=>rw [hp] at h;simp at h
    | some p' =>
     rw [hp] at h;simp at h;subst h;obtain ⟨q,c,rfl,h1,h2,h3,h4⟩:=ih t p' hp;refine ⟨b :: q,c,by simp,h1,?_,?_,?_⟩
     ·intro d hd;rcases List.mem_cons.1 hd with rfl | hd
      ·omega
      ·exact h2 d hd
     ·simp only [List.cons_append,List.length_cons,List.drop_succ_cons];rw [<-h3]
     ·simp only [List.length_cons];omega
theorem Zce (b:UInt8):UInt8.ofNat b.toNat=b:=by simp
theorem Zsl (b:UInt8) (h:128<=b.toNat):UInt8.ofNat (128+b.toNat % 128)=b:=by
 have h2:=b.toNat_lt;have:128+b.toNat % 128=b.toNat:=by omega
 rw [this,Zce]
theorem ZtQ:∀ (q:List UInt8) (b:UInt8),b.toNat<128->(∀ c ∈ q,128<=c.toNat)->(q=[]\/b ≠ 0)->nb (val (q++[b]))=q++[b]:=by
 intro q
 induction q with
 | nil =>
  intro b hb _ _;simp only [List.nil_append,val,Nat.mul_zero,Nat.add_zero];rw [Nat.mod_eq_of_lt hb,ZdS hb,Zce]
 | cons c q ih =>
  intro b hb hq h0
  have hb0:b ≠ 0:=by
   rcases h0 with h0 | h0
   ·simp at h0
   ·exact h0
  have hc:=hq c (by simp);have ih':=ih b hb (fun d hd=>hq d (by simp [hd])) (Or.inr hb0)
  have hpos:1<=val (q++[b]):=by
   rw [Zjj]
   have:1<=b.toNat % 128:=by
    rw [Nat.mod_eq_of_lt hb];rcases Nat.eq_zero_or_pos b.toNat with h | h
    ·exact absurd (by simpa using congrArg UInt8.ofNat h) hb0
    ·exact h
   have h2:1<=128 ^ q.length:=Nat.pow_pos (by omega);have:=Nat.mul_le_mul this h2;omega
  simp only [List.cons_append,val];rw [ZgV (by omega)]
  rw [show (c.toNat % 128+128*val (q++[b])) % 128=c.toNat % 128 by omega,
   show (c.toNat % 128+128*val (q++[b])) / 128=val (q++[b]) by omega,Zsl c hc,ih']
theorem ZkR:∀ (f n:Nat),n<=f->128<=n->∃ q b,nb n=q++[b]/\b ≠ 0:=by
 intro f
 induction f with
 | zero=>intro n h1 h2;omega
 | succ f ih =>
  intro n h1 h2;rw [ZgV h2];by_cases h:n / 128<128
  ·rw [ZdS h];refine ⟨[UInt8.ofNat (128+n % 128)],UInt8.ofNat (n / 128),rfl,?_⟩;intro e;have:=congrArg UInt8.toNat e;simp at this;omega
  ·obtain ⟨q,b,hq,hb⟩:=ih (n / 128) (by omega) (by omega);exact ⟨UInt8.ofNat (128+n % 128) :: q,b,by rw [hq];rfl,hb⟩
theorem ZqG (q:List UInt8) (h:q ≠ []) (n:Nat):nb n ≠ q++[0]:=by
 intro e;by_cases hn:n<128
 ·rw [ZdS hn] at e;have:=congrArg List.length e;simp at this;exact h this
 ·obtain ⟨q',b,hq,hb⟩:=ZkR n n (nl _) (by omega);rw [hq] at e;have:=List.append_inj' e rfl;simp at this;exact hb this.2
theorem ZuL:∀ (f n:Nat),n<=f->val (nb n)=n:=by
 intro f
 induction f with
 | zero =>
  intro n h;have:n=0:=by omega
  subst this;rw [ZdS (by omega)];simp [val]
 | succ f ih =>
  intro n h;by_cases hn:n<128
  ·rw [ZdS hn];simp only [val,UInt8.toNat_ofNat'];omega
  ·rw [ZgV (by omega)];simp only [val,UInt8.toNat_ofNat'];rw [ih (n / 128) (by omega)];omega
theorem Zul:∀ (k n:Nat) (r:List UInt8),(nb n).length<=k->pre k (nb n++r)=some (nb n):=by
 intro k
 induction k with
 | zero=>intro n r h;have:=ZlW n;omega
 | succ k ih =>
  intro n r h;by_cases hn:n<128
  ·rw [ZdS hn];simp only [List.cons_append,List.nil_append,pre,UInt8.toNat_ofNat'];rw [if_pos (by omega)]
  ·rw [ZgV (by omega)] at h |-
   simp only [List.length_cons] at h;simp only [List.cons_append,pre,UInt8.toNat_ofNat'];rw [if_neg (by omega),ih (n / 128) r (by omega)];rfl
theorem ZeD (n:Nat) (r:List UInt8) (h:n<=2147483647):Zl (nb n++r)=some (n,(nb n).length):=by
 unfold Zl;rw [Zul 5 n r (Zt n h)];simp only [ZuL n n (Nat.le_refl _)];simp [h]
theorem Zai {l:List UInt8} {n k:Nat} (h:Zl l=some (n,k)):n<=2147483647/\nb n=l.take k/\k<=l.length/\1<=k/\k<=5:=by
 unfold Zl at h
 cases hp:pre 5 l with
 | none=>rw [hp] at h;simp at h
 | some p =>
  rw [hp] at h;simp only at h;by_cases hc:val p<=2147483647/\nb (val p)=p
  ·rw [if_pos hc] at h;simp only [Option.some.injEq,Prod.mk.injEq] at h;obtain ⟨rfl,rfl⟩:=h;obtain ⟨q,b,hqb,_,_,h3,h4⟩:=ZoH 5 l p hp;refine ⟨hc.1,?_,?_,?_,h4⟩
   ·rw [hc.2]
    conv=>rhs;rw [h3]
    simp
   ·rw [h3];simp
   ·rw [hqb];simp
  ·rw [if_neg hc] at h;simp at h
theorem Zsx (l:List UInt8) (i:Nat) (b:UInt8) (hi:i<5) (hb:l[i]?=some b) (hlt:b.toNat<128)
 (h:∀ j,j<i->∀ c,l[j]?=some c->128<=c.toNat) :
 Zl l=if (b=0/\0<i)\/2147483647<val (l.take (i+1)) then none else some (val (l.take (i+1)),i+1):=by
 have hp:=Zkf 5 i l b hi hb hlt h
 have hil:i<l.length:=by
  rcases Nat.lt_or_ge i l.length with h | h
  ·exact h
  ·rw [List.getElem?_eq_none h] at hb;simp at hb
 have ht:l.take (i+1)=l.take i++[b]:=by
  rw [List.take_succ_eq_append_getElem hil]
  congr 1
  rw [List.getElem?_eq_getElem hil] at hb;simpa using hb
 have hlen:(l.take (i+1)).length=i+1:=by simp;omega
 unfold Zl;rw [hp];simp only;by_cases hv:2147483647<val (l.take (i+1))
 ·rw [if_neg (by omega),if_pos (Or.inr hv)]
 ·by_cases hs:b=0/\0<i
  ·rw [if_pos (Or.inl hs),if_neg];intro hc;have h2:=hc.2;rw [ht,hs.1] at h2;exact ZqG (l.take i) (by intro e;have:=congrArg List.length e;rw [List.length_take,List.length_nil] at this;omega) _ h2
  ·have hn:¬((b=0/\0<i)\/2147483647<val (l.take (i+1))):=by
    rintro (h | h)
    ·exact hs h
    ·exact hv h
   rw [if_neg hn,if_pos,hlen];refine ⟨by omega,?_⟩;rw [ht];refine ZtQ (l.take i) b hlt ?_ ?_
   ·intro c hc;obtain ⟨j,hj,rfl⟩:=List.getElem_of_mem hc;have hj2:j<i:=by simp at hj;omega
    refine h j hj2 _ ?_;rw [List.getElem_take];exact List.getElem?_eq_getElem _
   ·by_cases hi0:i=0
    ·left;subst hi0;simp
    ·right;intro e;exact hs ⟨e,by omega⟩
theorem ZpJ (l:List UInt8) (i:Nat) (b:UInt8) (hi:i<5) (hb:l[i]?=some b) (hlt:b.toNat<128)
 (h:∀ j,j<i->∀ c,l[j]?=some c->128<=c.toNat) :
 Zl l=if val (l.take (i+1))<=2147483647/\nb (val (l.take (i+1)))=l.take (i+1) then some (val (l.take (i+1)),i+1) else none:=by
 have hil:i<l.length:=by
  rcases Nat.lt_or_ge i l.length with h | h
  ·exact h
  ·rw [List.getElem?_eq_none h] at hb;simp at hb
 have hlen:(l.take (i+1)).length=i+1:=by simp;omega
 unfold Zl;rw [Zkf 5 i l b hi hb hlt h];simp only [hlen]
theorem ZgC (l:List UInt8) (h:∀ j,j<5->∀ b,l[j]?=some b->128<=b.toNat):Zl l=none:=by
 unfold Zl;rw [ZqF 5 l h]
theorem ZdN (a b:List UInt8):(⟨a.toArray⟩:ByteArray)++⟨b.toArray⟩=⟨(a++b).toArray⟩:=by
 apply ByteArray.ext;simp
theorem Zmz (s:ByteArray):(⟨s.data.toList.toArray⟩:ByteArray)=s:=by
 apply ByteArray.ext;simp
theorem ZcM {s:ByteArray} {a b X:Nat} (h:s.size<=X):(s.extract a b).size<=X:=by simp;omega
theorem appd (a b:ByteArray):(a++b).data.toList=a.data.toList++b.data.toList:=by simp
theorem apps (a b:ByteArray):(a++b).size=a.size+b.size:=by simp
theorem ZG {a b:ByteArray} (h:a.data.toList=b.data.toList):a=b:=by
 apply ByteArray.ext;exact Array.toList_inj.1 h
theorem ZN (s:ByteArray) (k:Nat) (h:k<s.size):s.data.toList[k]?=some s[k]:=by
 rw [List.getElem?_eq_getElem (by simpa using h)];rfl
theorem Zjw (s:ByteArray) (k:Nat) (h:k<s.size):val (s.data.toList.take (k+1))=val (s.data.toList.take k)+s[k].toNat % 128*2 ^ (7*k):=by
 have hl:k<s.data.toList.length:=by simpa using h
 rw [List.take_succ_eq_append_getElem hl,Zjj,List.length_take,Nat.min_eq_left (by omega),Nat.pow_mul];rfl
def num (s:ByteArray):Nat:=match Zl s.data.toList with | none=>0 | some x=>x.1
def size (s:ByteArray):Nat:=match Zl s.data.toList with | none=>0 | some x=>x.2
def rest (s:ByteArray):ByteArray:=match Zl s.data.toList with | none=>⟨#[]⟩ | some x=>s.extract x.2 s.size
def is (s:ByteArray):Bool:=(Zl s.data.toList).isSome
theorem ZaW {s:ByteArray} (h:Zl s.data.toList=none):rest s=⟨#[]⟩/\is s=false:=by simp [rest,is,h]
theorem ZbC {s:ByteArray} {n k:Nat} (h:Zl s.data.toList=some (n,k)):rest s=s.extract k s.size/\is s=true:=by simp [rest,is,h]
theorem ZaA {s:ByteArray} (h:Zl s.data.toList=none):num s=0/\size s=0:=by simp [num,size,h]
theorem Zby {s:ByteArray} {n k:Nat} (h:Zl s.data.toList=some (n,k)):num s=n/\size s=k:=by simp [num,size,h]
end Go.Proofs.YtbjbjbpgmojcbabGreat.Nm
namespace Go.Proofs.YtbjbjbpgmojcbabGreat
namespace Im
abbrev B:=List UInt8
def Rd {α:Type} (p:ByteArray->Option (α × ByteArray)) (enc:α->B) (ok:α->Prop):Prop:=∀ s x r,p s=some (x,r) ↔ (ok x/\s.data.toList=enc x++r.data.toList)
theorem Zap (s:ByteArray) (k:Nat):(s.extract k s.size).data.toList=s.data.toList.drop k:=by
 simp only [ByteArray.data_extract,Array.toList_extract];have:s.size=s.data.toList.length:=by simp
 rw [this];simp [List.extract,List.take_of_length_le]
theorem Zdc (s:ByteArray) (k:Nat):(s.extract 0 k).data.toList=s.data.toList.take k:=by
 simp [ByteArray.data_extract,Array.toList_extract,List.extract]
theorem Zj (s:ByteArray):s.size=s.data.toList.length:=by simp
def rNum (s:ByteArray):Option (Nat × ByteArray):=match Nm.Zl s.data.toList with
 | none=>none
 | some (n,k)=>some (n,s.extract k s.size)
theorem Zay:Rd rNum Nm.nb (fun n=>n<=2147483647):=by
 intro s n r;unfold rNum;constructor
 ·intro h
  cases hf:Nm.Zl s.data.toList with
  | none=>rw [hf] at h;cases h
  | some x =>
   obtain ⟨m,k⟩:=x;rw [hf] at h;simp only [Option.some.injEq,Prod.mk.injEq] at h;obtain ⟨rfl,rfl⟩:=h;obtain ⟨h1,h2,h3,_⟩:=Nm.Zai hf;refine ⟨h1,?_⟩;rw [Zap,h2,List.take_append_drop]
 ·rintro ⟨h1,h2⟩;have hf:=Nm.ZeD n r.data.toList h1;rw [<-h2] at hf;rw [hf];simp only [Option.some.injEq,Prod.mk.injEq,true_and];apply Nm.ZG;rw [Zap,h2];simp
def tb (t:ByteArray):B:=Nm.nb t.size++t.data.toList
def rCnt (m:Nat) (s:ByteArray):Option (ByteArray × ByteArray):=match rNum s with
 | none=>none
 | some (n,r)=>if n<=m/\n<=r.size then some (r.extract 0 n,r.extract n r.size) else none
theorem Zbd (m:Nat):Rd (rCnt m) tb (fun t=>t.size<=2147483647/\t.size<=m):=by
 intro s t r;unfold rCnt;constructor
 ·intro h1
  cases hf:rNum s with
  | none=>rw [hf] at h1;cases h1
  | some x =>
   obtain ⟨k,q⟩:=x;rw [hf] at h1;have h:=(Zay s k q).1 hf;by_cases hm:k<=m/\k<=q.size
   ·simp only [if_pos hm,Option.some.injEq,Prod.mk.injEq] at h1;obtain ⟨rfl,rfl⟩:=h1;have e:(q.extract 0 k).size=k:=by rw [Zj,Zdc,List.length_take,<-Zj];omega
    refine ⟨⟨by rw [e];exact h.1,by rw [e];exact hm.1⟩,?_⟩;unfold tb;rw [e,Zdc,Zap,h.2,List.append_assoc,List.take_append_drop]
   ·simp only [if_neg hm] at h1;cases h1
 ·rintro ⟨⟨h1,h2⟩,h3⟩;unfold tb at h3
  have hq:∃ q:ByteArray,q.data.toList=t.data.toList++r.data.toList:=⟨⟨(t.data.toList++r.data.toList).toArray⟩,by simp⟩
  obtain ⟨q,hq⟩:=hq;rw [List.append_assoc,<-hq] at h3;rw [(Zay s t.size q).2 ⟨h1,h3⟩];have hz:t.size<=q.size:=by rw [Zj q,hq,List.length_append,<-Zj];omega
  simp only [if_pos (And.intro h2 hz),Option.some.injEq,Prod.mk.injEq];have el:t.size=t.data.toList.length:=Zj t;constructor
  ·apply Nm.ZG;rw [Zdc,hq,el];simp
  ·apply Nm.ZG;rw [Zap,hq,el];simp
def flat {α:Type} (enc:α->B) (l:List α):B:=l.flatMap enc
theorem Znn {α β γ:Type} {p:ByteArray->Option (α × ByteArray)} {q:ByteArray->Option (β × ByteArray)} {e1:α->B} {e2:β->B} {o1:α->Prop} {o2:β->Prop} (hp:Rd p e1 o1) (hq:Rd q e2 o2)
 (f:γ->α) (g:γ->β) (mk:α->β->γ) (h1:∀ a b,f (mk a b)=a) (h2:∀ a b,g (mk a b)=b) (h3:∀ c,mk (f c) (g c)=c) :
 Rd (fun s=>match p s with | none=>none | some (a,r)=>match q r with | none=>none | some (b,r2)=>some (mk a b,r2)) (fun c=>e1 (f c)++e2 (g c)) (fun c=>o1 (f c)/\o2 (g c)):=by
 intro s c r;constructor
 ·intro h;simp only at h
  cases ha:p s with
  | none=>rw [ha] at h;cases h
  | some y =>
   obtain ⟨a,r0⟩:=y;rw [ha] at h;simp only at h
   cases hb:q r0 with
   | none=>rw [hb] at h;cases h
   | some z =>
    obtain ⟨b,r1⟩:=z;rw [hb] at h;simp only [Option.some.injEq,Prod.mk.injEq] at h;obtain ⟨rfl,rfl⟩:=h;obtain ⟨a1,a2⟩:=(hp s a r0).1 ha;obtain ⟨b1,b2⟩:=(hq r0 b r1).1 hb;simp only [h1,h2];exact ⟨⟨a1,b1⟩,by rw [a2,b2,List.append_assoc]⟩
 ·rintro ⟨⟨a1,b1⟩,h⟩
  obtain ⟨r0,hr0⟩:∃ q:ByteArray,q.data.toList=e2 (g c)++r.data.toList:=⟨⟨(e2 (g c)++r.data.toList).toArray⟩,by simp⟩
  rw [List.append_assoc,<-hr0] at h;simp only;rw [(hp s (f c) r0).2 ⟨a1,h⟩];simp only;rw [(hq r0 (g c) r).2 ⟨b1,hr0⟩];simp only [h3]
end Im
namespace Tr
def xa (xs:List ByteArray) (i:Nat):ByteArray:=xs.getD i ⟨#[]⟩
def stK (p t:ByteArray):Nat->Bool
 | 0=>false
 | k+1=>stK p t k || decide (k+p.size<=t.size/\t.extract k (k+p.size)=p)
def st (p t:ByteArray):Bool:=stK p t (t.size+1)
theorem ZqA {p t:ByteArray} {k:Nat} (h:stK p t k=true):∀ j,stK p t (k+j)=true:=by
 intro j
 induction j with
 | zero=>exact h
 | succ j ih=>rw [<-Nat.add_assoc,stK,ih,Bool.true_or]
theorem Zii {p t:ByteArray} {k:Nat} (hk:t.size<k+p.size):∀ j,stK p t (k+j)=stK p t k:=by
 intro j
 induction j with
 | zero=>rfl
 | succ j ih=>rw [<-Nat.add_assoc,stK,ih,decide_eq_false (by omega),Bool.or_false]
def ctK (xs:List ByteArray) (p:ByteArray):Nat->Nat
 | 0=>0
 | k+1=>ctK xs p k+(if st p (xa xs k)=true then 1 else 0)
theorem Zki (xs:List ByteArray) (p:ByteArray):∀ k,ctK xs p k<=k:=by
 intro k
 induction k with
 | zero=>exact nl _
 | succ k ih=>rw [ctK];split <;> omega
def ct (xs:List ByteArray) (p:ByteArray):Nat:=ctK xs p xs.length
theorem ZfV {p t:ByteArray} {k:Nat}:stK p t k=true ↔ ∃ i,i<k/\i+p.size<=t.size/\t.extract i (i+p.size)=p:=by
 induction k with
 | zero=>simp [stK]
 | succ k ih =>
  rw [stK,Bool.or_eq_true,ih,decide_eq_true_iff];constructor
  ·rintro (⟨i,h1,h2⟩ | h)
   ·exact ⟨i,by omega,h2⟩
   ·exact ⟨k,by omega,h⟩
  ·rintro ⟨i,h1,h2⟩;by_cases h:i=k
   ·subst h;exact .inr h2
   ·exact .inl ⟨i,by omega,h2⟩
theorem Zej {p t:ByteArray}:st p t=true ↔ ∃ i,i+p.size<=t.size/\t.extract i (i+p.size)=p:=by
 rw [st,ZfV];constructor
 ·rintro ⟨i,_,h⟩;exact ⟨i,h⟩
 ·rintro ⟨i,h⟩;exact ⟨i,by omega,h⟩
theorem ZgH {p b d:ByteArray} (h:st p d=true):st p (b++d)=true:=by
 obtain ⟨i,h1,h2⟩:=Zej.1 h;refine Zej.2 ⟨b.size+i,by rw [ByteArray.size_append];omega,?_⟩;rw [Nat.add_assoc,ByteArray.extract_append_size_add];exact h2
theorem Zue (b d:ByteArray):st b (b++d)=true :=
 Zej.2 ⟨0,by rw [ByteArray.size_append];omega,ByteArray.extract_append_eq_left (by omega)⟩
theorem ZmV {xs:List ByteArray} {p:ByteArray}:∀ {k:Nat},1<=ctK xs p k->∃ i,i<k/\st p (xa xs i)=true
 | 0,h=>by simp [ctK] at h
 | k+1,h=>by
  rw [ctK] at h;by_cases hs:st p (xa xs k)=true
  ·exact ⟨k,by omega,hs⟩
  ·rw [if_neg hs] at h;obtain ⟨i,h1,h2⟩:=ZmV (k:=k) (by omega);exact ⟨i,by omega,h2⟩
def bl (a b:ByteArray):Bool:=Op.bytesLess a.toList b.toList
theorem ZgO:∀ (x y:List UInt8),Op.bytesLess x y=decide (x<y)
 | [],[]=>by simp [Op.bytesLess]
 | _ :: _,[]=>by simp [Op.bytesLess]
 | [],_ :: _=>by simp [Op.bytesLess]
 | a :: x,b :: y=>by
  rw [Op.bytesLess,ZgO x y];simp only [List.cons_lt_cons_iff];by_cases h1:a<b <;> by_cases h2:a=b <;> by_cases h3:x<y <;> simp [h1,h2,h3]
theorem Zbq {a b:ByteArray} (h:a.toList=b.toList):a=b:=by
 rw [ByteArray.toList_eq,ByteArray.toList_eq] at h
 cases a;cases b
 simpa using h
theorem ZcJ (a:ByteArray):bl a a=false:=by rw [bl,ZgO];exact decide_eq_false (List.lt_irrefl _)
theorem ZcN {a b c:ByteArray} (h1:bl a b=true) (h2:bl b c=true):bl a c=true:=by
 rw [bl,ZgO,decide_eq_true_iff] at *;exact List.lt_trans h1 h2
theorem ZfX {a b:ByteArray} (h1:bl a b=false) (h2:bl b a=false):a=b:=by
 rw [bl,ZgO,decide_eq_false_iff_not] at *;exact Zbq (List.le_antisymm h2 h1)
theorem Zkg:∀ (x y:List UInt8),decide (Lib.compareBytes x y<0)=decide (x<y)
 | [],[]=>by simp [Lib.compareBytes]
 | _ :: _,[]=>by simp [Lib.compareBytes]
 | [],_ :: _=>by simp [Lib.compareBytes]
 | a :: x,b :: y=>by
  rw [Lib.compareBytes];simp only [List.cons_lt_cons_iff];have ih:=Zkg x y;by_cases h1:a<b
  ·simp [h1]
  ·by_cases h2:b<a
   ·have h3:a ≠ b:=by rintro rfl;exact h1 h2
    simp [h1,h2,h3]
   ·have h3:a=b:=UInt8.le_antisymm (UInt8.not_lt.1 h2) (UInt8.not_lt.1 h1);subst h3;simpa [List.lt_irrefl] using ih
theorem ZmE (a b:ByteArray):decide (Lib.compareBytes a.data.toList b.data.toList<0)=bl a b:=by
 rw [Zkg,bl,ZgO,ByteArray.toList_eq,ByteArray.toList_eq]
def lt (xs:List ByteArray) (a b:ByteArray):Bool:=decide (ct xs b<ct xs a) || (ct xs a == ct xs b && bl a b)
theorem Zrp (xs:List ByteArray) (a:ByteArray):lt xs a a=false:=by simp [lt,ZcJ]
theorem lt_trans {xs:List ByteArray} {a b c:ByteArray} (h1:lt xs a b=true) (h2:lt xs b c=true):lt xs a c=true:=by
 simp only [lt,Bool.or_eq_true,decide_eq_true_iff,Bool.and_eq_true,beq_iff_eq] at *;rcases h1 with h1 | ⟨e1,h1⟩ <;> rcases h2 with h2 | ⟨e2,h2⟩
 ·left;omega
 ·left;omega
 ·left;omega
 ·right;exact ⟨by omega,ZcN h1 h2⟩
theorem ZjS {xs:List ByteArray} {a b:ByteArray} (h1:lt xs a b=true):lt xs b a=false:=by
 cases h:lt xs b a with
 | false=>rfl
 | true=>have:=lt_trans h1 h;rw [Zrp] at this;cases this
theorem Zec {xs:List ByteArray} {a b:ByteArray} (h1:lt xs a b=false) (h2:lt xs b a=false):a=b:=by
 simp only [lt,Bool.or_eq_false_iff,decide_eq_false_iff_not,Bool.and_eq_false_iff] at h1 h2;have e:ct xs a=ct xs b:=by omega
 refine ZfX ?_ ?_
 ·rcases h1.2 with h | h
  ·simp [e] at h
  ·exact h
 ·rcases h2.2 with h | h
  ·simp [e] at h
  ·exact h
theorem Zhg {xs:List ByteArray} {a b c:ByteArray} (h1:lt xs a b=false) (h2:lt xs b c=false):lt xs a c=false:=by
 cases h:lt xs a c with
 | false=>rfl
 | true =>
  cases hb:lt xs b a with
  | true=>rw [lt_trans hb h] at h2;cases h2
  | false=>rw [Zec h1 hb,h2] at h;cases h
def pc (t:ByteArray) (k:Nat):ByteArray:=t.extract k (k+4)
def bs (xs:List ByteArray) (d:ByteArray) (a:ByteArray × Nat) (p:ByteArray):ByteArray × Nat :=
 if (decide (a.2<ct xs p) || (ct xs p == a.2 && decide (1<ct xs p) && bl p a.1)) && !st p d then (p,ct xs p) else a
def bsR (xs:List ByteArray) (d t:ByteArray) (a:ByteArray × Nat):Nat->ByteArray × Nat
 | 0=>a
 | k+1=>bs xs d (bsR xs d t a k) (pc t k)
def bsT (xs:List ByteArray) (d:ByteArray):Nat->ByteArray × Nat
 | 0=>(⟨#[]⟩,1)
 | i+1=>bsR xs d (xa xs i) (bsT xs d i) ((xa xs i).size - 3)
def best (xs:List ByteArray) (d:ByteArray):ByteArray:=(bsT xs d xs.length).1
def tro (xs:List ByteArray) (size:Nat):Nat->ByteArray->ByteArray
 | 0,d=>d
 | f+1,d=>if d.size+4<=size then (if (best xs d).size=0 then d else tro xs size f (best xs d++d)) else d
def trn (xs:List ByteArray) (size:Nat):ByteArray:=tro xs size 65 ⟨#[]⟩
def ok (xs:List ByteArray) (d p:ByteArray):Prop:=2<=ct xs p/\st p d=false
def Inv (xs:List ByteArray) (d:ByteArray) (S:ByteArray->Prop) (a:ByteArray × Nat):Prop :=
 (a=(⟨#[]⟩,1)/\∀ p,S p->¬ ok xs d p)\/(S a.1/\ok xs d a.1/\a.2=ct xs a.1/\∀ p,S p->ok xs d p->p=a.1\/lt xs a.1 p=true)
theorem Inv.step {xs:List ByteArray} {d:ByteArray} {S:ByteArray->Prop} {a:ByteArray × Nat} (h:Inv xs d S a) (p:ByteArray):Inv xs d (fun q=>S q\/q=p) (bs xs d a p):=by
 unfold bs;rcases h with ⟨rfl,h⟩ | ⟨h1,h2,h3,h4⟩
 ·split
  ·rename_i hc
   simp only [Bool.and_eq_true,Bool.or_eq_true,decide_eq_true_iff,Bool.not_eq_true',beq_iff_eq] at hc
   right
   refine ⟨.inr rfl,⟨by show 2<=ct xs p;omega,hc.2⟩,rfl,?_⟩;rintro q (hq | hq) hk
   ·exact absurd hk (h q hq)
   ·exact .inl hq
  ·rename_i hc
   left
   refine ⟨rfl,?_⟩;rintro q (hq | rfl) ⟨k1,k2⟩
   ·exact h q hq ⟨k1,k2⟩
   ·apply hc;simp [k2];left;omega
 ·split
  ·rename_i hc
   simp only [Bool.and_eq_true,Bool.or_eq_true,decide_eq_true_iff,Bool.not_eq_true',beq_iff_eq] at hc
   right
   have hlt:lt xs p a.1=true:=by
    simp only [lt,Bool.or_eq_true,decide_eq_true_iff,Bool.and_eq_true,beq_iff_eq];rcases hc.1 with hc | hc
    ·left;omega
    ·right;exact ⟨by omega,hc.2⟩
   refine ⟨.inr rfl,⟨by have:=h2.1;show 2<=ct xs p;omega,hc.2⟩,rfl,?_⟩;rintro q (hq | hq) hk
   ·right
    rcases h4 q hq hk with rfl | h5
    ·exact hlt
    ·exact lt_trans hlt h5
   ·exact .inl hq
  ·rename_i hc
   right
   refine ⟨.inl h1,h2,h3,?_⟩;rintro q (hq | rfl) hk
   ·exact h4 q hq hk
   ·cases h5:lt xs a.1 q with
    | true=>exact .inr rfl
    | false =>
     left
     refine Zec ?_ h5
     cases h6:lt xs q a.1 with
     | false=>rfl
     | true =>
      exfalso;apply hc
      simp only [lt,Bool.or_eq_true,decide_eq_true_iff,Bool.and_eq_true,beq_iff_eq] at h6;have:=hk.1;rcases h6 with h6 | h6
      ·simp [hk.2];left;omega
      ·simp [hk.2];right;exact ⟨⟨by omega,by omega⟩,h6.2⟩
theorem Inv.mono {xs:List ByteArray} {d:ByteArray} {S T:ByteArray->Prop} {a:ByteArray × Nat} (h:Inv xs d S a) (hST:∀ p,S p ↔ T p):Inv xs d T a:=by
 rw [show S=T from funext fun p=>propext (hST p)] at h;exact h
theorem Znq {xs:List ByteArray} {d t:ByteArray} {S:ByteArray->Prop} {a:ByteArray × Nat} (h:Inv xs d S a):∀ k,Inv xs d (fun p=>S p\/∃ i,i<k/\p=pc t i) (bsR xs d t a k)
 | 0=>h.mono fun p=>by simp
 | k+1=>((Znq h k).step (pc t k)).mono fun p=>by
  constructor
  ·rintro ((h | ⟨i,h1,h2⟩) | rfl)
   ·exact .inl h
   ·exact .inr ⟨i,by omega,h2⟩
   ·exact .inr ⟨k,by omega,rfl⟩
  ·rintro (h | ⟨i,h1,h2⟩)
   ·exact .inl (.inl h)
   ·by_cases e:i=k
    ·subst e;exact .inr h2
    ·exact .inl (.inr ⟨i,by omega,h2⟩)
theorem Zni {xs:List ByteArray} {d:ByteArray}:∀ k,Inv xs d (fun p=>∃ j,j<k/\∃ i,i<(xa xs j).size - 3/\p=pc (xa xs j) i) (bsT xs d k)
 | 0=>.inl ⟨rfl,by rintro p ⟨j,h,_⟩;omega⟩
 | k+1=>(Znq (Zni k) _).mono fun p=>by
  constructor
  ·rintro (⟨j,h1,h2⟩ | h)
   ·exact ⟨j,by omega,h2⟩
   ·exact ⟨k,by omega,h⟩
  ·rintro ⟨j,h1,h2⟩;by_cases e:j=k
   ·subst e;exact .inr h2
   ·exact .inl ⟨j,by omega,h2⟩
theorem ZeX {t:ByteArray} {i:Nat} (h:i<t.size - 3):(pc t i).size=4:=by rw [pc,ByteArray.size_extract];omega
theorem seen {xs:List ByteArray} {p:ByteArray} (h4:p.size=4) (h:1<=ct xs p):∃ j,j<xs.length/\∃ i,i<(xa xs j).size - 3/\p=pc (xa xs j) i:=by
 obtain ⟨j,h1,h2⟩:=ZmV h;obtain ⟨i,h3,h5⟩:=Zej.1 h2;rw [h4] at h3 h5;exact ⟨j,h1,i,by omega,h5.symm⟩
theorem Zcy (xs:List ByteArray) (d:ByteArray) :
 ((best xs d)=⟨#[]⟩/\∀ p,p.size=4->¬ ok xs d p)\/((best xs d).size=4/\ok xs d (best xs d)/\∀ p,p.size=4->ok xs d p->p=best xs d\/lt xs (best xs d) p=true):=by
 rcases Zni (xs:=xs) (d:=d) xs.length with ⟨h1,h2⟩ | ⟨⟨j,h1,i,h2,h3⟩,h4,h5,h6⟩
 ·left
  refine ⟨by rw [best,h1],fun p hp hk=>h2 p (seen hp (by have:=hk.1;omega)) hk⟩
 ·right
  refine ⟨by rw [best,h3];exact ZeX h2,h4,fun p hp hk=>h6 p (seen hp (by have:=hk.1;omega)) hk⟩
theorem ZnI {xs:List ByteArray} {d:ByteArray} (h:∀ p,p.size=4->¬ ok xs d p):(best xs d).size=0:=by
 rcases Zcy xs d with ⟨h1,_⟩ | ⟨h1,h2,_⟩
 ·rw [h1];rfl
 ·exact absurd h2 (h _ h1)
theorem ZsR {xs:List ByteArray} {d b:ByteArray} (h4:b.size=4) (hb:ok xs d b) (h:∀ p,p.size=4->ok xs d p->p=b\/lt xs b p=true):best xs d=b:=by
 rcases Zcy xs d with ⟨_,h2⟩ | ⟨h1,h2,h3⟩
 ·exact absurd hb (h2 b h4)
 ·rcases h _ h1 h2 with h5 | h5
  ·exact h5
  ·rcases h3 _ h4 hb with h6 | h6
   ·exact h6.symm
   ·rw [ZjS h5] at h6;cases h6
def Rk (xs L:List ByteArray):Prop:=L.Pairwise (fun a b=>lt xs a b=true)/\∀ p,p ∈ L ↔ p.size=4/\2<=ct xs p
theorem Zqy {xs L:List ByteArray} {d:ByteArray} (h:Rk xs L) {i:Nat} (hi:i<L.length) (hs:st L[i] d=false) (ha:∀ k,(hk:k<i)->st (L[k]'(by omega)) d=true):best xs d=L[i]:=by
 have hm:=(h.2 L[i]).1 (gM hi);refine ZsR hm.1 ⟨hm.2,hs⟩ fun p hp hk=>?_
 obtain ⟨k,hk1,rfl⟩:=List.mem_iff_getElem.1 ((h.2 p).2 ⟨hp,hk.1⟩);by_cases e1:k<i
 ·have:=ha k e1;rw [hk.2] at this;cases this
 ·by_cases e2:k=i
  ·subst e2;exact .inl rfl
  ·exact .inr (List.pairwise_iff_getElem.1 h.1 i k hi hk1 (by omega))
theorem ZsZ {xs L:List ByteArray} {d:ByteArray} (h:Rk xs L) (ha:∀ k,(hk:k<L.length)->st L[k] d=true):(best xs d).size=0:=by
 refine ZnI fun p hp hk=>?_
 obtain ⟨k,hk1,rfl⟩:=List.mem_iff_getElem.1 ((h.2 p).2 ⟨hp,hk.1⟩);have:=ha k hk1;rw [hk.2] at this;cases this
structure Good (xs:List ByteArray) (size:Nat) (d:ByteArray):Prop where
 four:d.size % 4=0
 most:d.size<=size
 twice:∀ x,x<d.size / 4->2<=ct xs (d.extract (4*x) (4*x+4))
 apart:∀ x y,x<d.size / 4->y<d.size / 4->x ≠ y->d.extract (4*x) (4*x+4) ≠ d.extract (4*y) (4*y+4)
theorem Zgd {b d:ByteArray} (hb:b.size=4):(b++d).extract (4*0) (4*0+4)=b:=ByteArray.extract_append_eq_left (by omega)
theorem ZcV {b d:ByteArray} (hb:b.size=4) (x:Nat):(b++d).extract (4*(x+1)) (4*(x+1)+4)=d.extract (4*x) (4*x+4):=by
 rw [show 4*(x+1)+4=b.size+(4*x+4) by omega,show 4*(x+1)=b.size+4*x by omega,ByteArray.extract_append_size_add]
theorem Good.step {xs:List ByteArray} {size:Nat} {b d:ByteArray} (h:Good xs size d) (hb:b.size=4) (hk:ok xs d b) (hs:d.size+4<=size):Good xs size (b++d):=by
 have e:(b++d).size=d.size+4:=by rw [ByteArray.size_append];omega
 have h0:=h.four;have hd:(d.size+4) / 4=d.size / 4+1:=by omega
 have hne:∀ x,x<d.size / 4->b ≠ d.extract (4*x) (4*x+4):=by
  intro x hx he;have:st b d=true:=Zej.2 ⟨4*x,by omega,by rw [hb];exact he.symm⟩;rw [hk.2] at this;cases this
 refine ⟨by omega,by omega,?_,?_⟩
 ·rw [e,hd];intro x hx
  cases x with
  | zero=>rw [Zgd hb];exact hk.1
  | succ x=>rw [ZcV hb];exact h.twice x (by omega)
 ·rw [e,hd];intro x y hx hy hxy
  cases x with
  | zero =>
   cases y with
   | zero=>omega
   | succ y=>rw [Zgd hb,ZcV hb];exact hne y (by omega)
  | succ x =>
   cases y with
   | zero=>rw [Zgd hb,ZcV hb];exact (hne x (by omega)).symm
   | succ y=>rw [ZcV hb,ZcV hb];exact h.apart x y (by omega) (by omega) (by omega)
theorem ZjH {xs:List ByteArray} {size:Nat}:∀ f {d:ByteArray},Good xs size d->Good xs size (tro xs size f d)
 | 0,d,h=>h
 | f+1,d,h=>by
  rw [tro];split
  ·rename_i hs
   split
   ·exact h
   ·rename_i hz
    rcases Zcy xs d with ⟨h1,_⟩ | ⟨h1,h2,_⟩
    ·rw [h1] at hz;exact absurd rfl hz
    ·exact ZjH f (h.step h1 h2 hs)
  ·exact h
theorem Zgf (xs:List ByteArray) (size:Nat):Good xs size (trn xs size) :=
 ZjH 65 ⟨rfl,Nat.zero_le _,fun x hx=>absurd hx (by show ¬ x<0 / 4;omega),fun x _ hx=>absurd hx (by show ¬ x<0 / 4;omega)⟩
theorem Zkq {xs:List ByteArray} {size f:Nat} {d:ByteArray} (hs:d.size+4<=size) (hb:(best xs d).size=4):tro xs size (f+1) d=tro xs size f (best xs d++d):=by
 rw [tro,if_pos hs,if_neg (by omega)]
theorem Zgq {xs:List ByteArray} {size f:Nat} {d:ByteArray} (hb:(best xs d).size=0):tro xs size f d=d:=by
 cases f with
 | zero=>rfl
 | succ f=>rw [tro,if_pos hb];split <;> rfl
theorem Zkr {xs:List ByteArray} {size f:Nat} {d:ByteArray} (hs:size<d.size+4):tro xs size f d=d:=by
 cases f with
 | zero=>rfl
 | succ f=>rw [tro,if_neg (by omega)]
end Tr
open Go.RowKit
theorem bch {B:Nat} {a b c:World} (h1:Below B a b) (h2:Below b.heap.size b c) (hB:B<=a.heap.size):Below B a c:=h1.trans (h2.mono (Nat.le_trans hB h1.size))
end Go.Proofs.YtbjbjbpgmojcbabGreat
namespace Go.Proofs
open Go.Shelf
def Tryz.laysM316_ren:Go.Shelf.Ren:=⟨fun | 316=>109 | n=>n,fun | 9=>9 | 3=>3 | 4=>4 | 37=>93 | 0=>0 | 127=>168 | 5=>5 | n=>n,fun | n=>n⟩
theorem Tryz.laysM316:Go.Proofs.LaysM.n316 Tryz.prog Tryz.laysM316_ren:={
 mixed:=by kernel_rfl
 f316:=Tryz.func109.trans (congrArg some (by kernel_rfl))
 t0:=Tryz.underlying0
 a0:=Tryz.isAgg0
 z0:=Tryz.sizeOf0
 v0:=Tryz.zeroValue0
 t3:=Tryz.underlying3
 a3:=Tryz.isAgg3
 z3:=Tryz.sizeOf3
 v3:=Tryz.zeroValue3
 t4:=Tryz.underlying4
 a4:=Tryz.isAgg4
 z4:=Tryz.sizeOf4
 v4:=Tryz.zeroValue4
 t9:=Tryz.underlying9
 a9:=Tryz.isAgg9
 z9:=Tryz.sizeOf9
 v9:=Tryz.zeroValue9
 t37:=Tryz.underlying93
 a37:=Tryz.isAgg93
 z37:=Tryz.sizeOf93
 v37:=Tryz.zeroValue93
 t127:=Tryz.underlying168
 a127:=Tryz.isAgg168
 z127:=Tryz.sizeOf168
 v127:=Tryz.zeroValue168
 t5:=Tryz.underlying5
 a5:=Tryz.isAgg5
 z5:=Tryz.sizeOf5
 v5:=Tryz.zeroValue5
 i0:=by kernel_rfl
 i3:=by kernel_rfl
 i4:=by kernel_rfl
 i5:=by kernel_rfl
 i9:=by kernel_rfl
 i37:=by kernel_rfl
 i127:=by kernel_rfl }
open Go.RowKit in
theorem Tryz.stringslite_Clone (s:ByteArray) (w:World) (hlim:s.size<=281474976710656) :
 Calls Tryz.prog 109 #[.string s] w fun e w'=>e=.returned (.string s)/\Below w.heap.size w w':=Any.stringslite_Clone Tryz.laysM316 s w hlim
end Go.Proofs
namespace Go.Proofs.YtbjbjbpgmojcbabGreat
open Go.RowKit
theorem ZP (s:ByteArray) (w:World) (h:s.size<=281474976710656) :
 Calls Tryz.prog 69 #[.string s] w fun e w'=>e=.returned (.string s)/\Below w.heap.size w w':=by
 go_enter Tryz.func69,Tryz.ntmps69
 go_wp2_with (go_at_call 109;refine (Tryz.stringslite_Clone _ _ h).mono ?_;rintro e w' ⟨rfl,hb⟩)
 go_ret
 exact ⟨rfl,hb⟩
theorem Zuc {W w1:World} (hb:Below W.heap.size W w1):∀ b o,b<W.heap.size->w1.cell? ⟨b,o,none⟩=W.cell? ⟨b,o,none⟩ :=
 fun b o h=>hb.cell (p:=⟨b,o,none⟩) h
theorem ZbH (s:ByteArray) (w:World) (hs:s.size<=maxLen) :
 Calls Tryz.prog 176 #[.string s] w fun e w'=>e=.returned (.tuple #[.int .i64 (Nm.num s:Nat),.int .i64 (Nm.size s:Nat)])/\w'=w:=by
 have hs2:(s.size:Int)<=9223372036854775807:=by unfold maxLen at hs;omega
 clear hs
 obtain ⟨lim,hlim⟩:∃ lim:Nat,min (s.size:Int) 5=(lim:Int):=⟨min s.size 5,by omega⟩
 have hl1:lim<=s.size:=by omega
 have hl2:lim<=5:=by omega
 have hl3:Hid (lim=s.size\/lim=5):=by show _\/_;omega
 go_enter Tryz.func176,Tryz.ntmps176
 go_wp2
 clear hlim;go_loop [4,9] (fun n i=>∃ k:Nat,k<=lim/\i=.int .i64 k/\n=.int .u64 (Nm.val (s.data.toList.take k):Nat)/\Hid (∀ j,j<k->∀ b,s.data.toList[j]?=some b->128<=b.toNat)) (fun _ i=>5 - (intOf i).toNat)
 case atStart=>exact ⟨0,by omega,rfl,rfl,fun j h=>by omega⟩
 case round =>
  obtain ⟨k,hk,rfl,rfl,hall⟩:=hrel;have hvl:=Nm.ZrC (s.data.toList.take k);generalize hm:Nm.val (s.data.toList.take k)=m at *;have Hm:Hid (Nm.val (s.data.toList.take k)=m):=hm;clear hm;by_cases hlt:k<lim
  ·have hmb:(m:Int)<268435456:=by
    have h3:(s.data.toList.take k).length<=4:=by rw [List.length_take];omega
    have h4:128 ^ (s.data.toList.take k).length<=128 ^ 4:=Nat.pow_le_pow_right (by omega) h3;omega
   clear hvl;have h1:k<s.size:=by omega
   obtain ⟨x,hx⟩:∃ x:Int,(s[k].toNat:Int)=x:=⟨_,rfl⟩
   have hx0:0<=x:=by omega
   have hx1:x<=255:=by have:=s[k].toNat_lt;omega
   have hp:(2:Int) ^ (7*k)<=2 ^ 28:=by
    have:k=0\/k=1\/k=2\/k=3\/k=4:=by omega
    rcases this with rfl | rfl | rfl | rfl | rfl <;> decide
   have hp0:(0:Int)<2 ^ (7*k):=Int.pow_pos (by omega)
   obtain ⟨y,hy⟩:∃ y:Int,x % 128*2 ^ (7*k)=y:=⟨_,rfl⟩
   have hy0:0<=y:=by rw [<-hy];exact Int.mul_nonneg (by omega) (by omega)
   have hy1:y<=34359738368:=by
    rw [<-hy];have h9:x % 128*2 ^ (7*k)<=128*2 ^ 28:=Int.mul_le_mul (by omega) hp (by omega) (by omega);have h8:(128*2 ^ 28:Int)=34359738368:=by decide
    omega
   clear hp hp0
   have Hv:Hid ((Nm.val (s.data.toList.take (k+1)):Int)=(m:Int)+y):=by
    show (Nm.val (s.data.toList.take (k+1)):Int)=(m:Int)+y;rw [Nm.Zjw s k h1,Hm.out,<-hy,<-hx];simp
   have Hx:Hid ((s[k].toNat:Int)=x):=hx;by_cases hb:128<=x
   ·go_wp2
    go_round
    case rel =>
     refine ⟨k+1,by omega,by go_num,by rw [<-Hv.out],?_⟩;show ∀ j,_;intro j hj b hjb;by_cases hjk:j=k
     ·subst hjk;rw [Nm.ZN s j h1] at hjb;simp only [Option.some.injEq] at hjb;subst hjb;have:=Hx.out;omega
     ·exact hall.out j (by omega) b hjb
    case measure=>simp [intOf];omega
   ·have hf:=Nm.Zsx s.data.toList k s[k] (by omega) (Nm.ZN s k h1) (by omega) hall.out;have Hf:Hid (Nm.Zl s.data.toList=if (s[k]=0/\0<k)\/2147483647<Nm.val (s.data.toList.take (k+1)) then none else some (Nm.val (s.data.toList.take (k+1)),k+1)):=hf;clear hf;by_cases hA:x=0/\0<k
    ·have hk':(0:Int)<(k:Int):=by omega
     have HF:Hid (Nm.num s=0/\Nm.size s=0):=by
      refine Nm.ZaA ?_;rw [Hf.out,if_pos]
      left
      exact ⟨by apply UInt8.toNat_inj.1;have:=Hx.out;simp;omega,hA.2⟩
     obtain ⟨rfl,hA2⟩:=hA;obtain rfl:y=0:=by rw [<-hy];simp
     have hd:decide (0<k)=true:=by simpa using hA2
     clear hy;go_wp2
     go_ret2
     exact ⟨by rw [HF.out.1,HF.out.2];rfl,rfl⟩
    ·by_cases hbig:2147483647<(m:Int)+y
     ·have HF:Hid (Nm.num s=0/\Nm.size s=0):=by
       refine Nm.ZaA ?_;rw [Hf.out,if_pos]
       right
       have:=Hv.out;omega
      by_cases hz:x=0
      ·exfalso
       obtain rfl:k=0:=by omega
       have h0:=Hm.out;simp [Nm.val] at h0;subst hz;simp at hy;omega
      ·have hz':(x == 0)=false:=by simp [hz]
       clear hA hz;go_wp2
       go_ret2
       exact ⟨by rw [HF.out.1,HF.out.2];rfl,rfl⟩
     ·have HF:Hid ((Nm.num s:Int)=(m:Int)+y/\Nm.size s=k+1):=by
       have h7:Nm.Zl s.data.toList=some (Nm.val (s.data.toList.take (k+1)),k+1):=by
        rw [Hf.out,if_neg];rintro (h | h)
        ·refine hA ⟨?_,h.2⟩;have:=Hx.out;rw [h.1] at this;simpa using this.symm
        ·have:=Hv.out;omega
       have h8:=Nm.Zby h7;refine ⟨?_,h8.2⟩;rw [h8.1];exact Hv.out
      by_cases hz:x=0
      ·obtain rfl:k=0:=by omega
       subst hz;obtain rfl:y=0:=by rw [<-hy];simp
       obtain rfl:m=0:=by have h0:=Hm.out;simpa [Nm.val] using h0.symm
       clear hA hy;go_wp2
       go_ret2
       exact ⟨by rw [HF.out.1,HF.out.2];rfl,rfl⟩
      ·have hz':(x == 0)=false:=by simp [hz]
       clear hA hz;go_wp2
       go_ret2
       exact ⟨by rw [HF.out.1,HF.out.2];rfl,rfl⟩
  ·have HF:Hid (Nm.num s=0/\Nm.size s=0):=by
    refine Nm.ZaA (Nm.ZgC _ ?_);intro j hj b hjb;refine hall.out j ?_ b hjb
    have:j<s.size:=by
     rcases Nat.lt_or_ge j s.size with h | h
     ·exact h
     ·rw [List.getElem?_eq_none (by simpa using h)] at hjb;simp at hjb
    have:=hl3.out;omega
   clear hvl;go_wp2
   go_ret2
   exact ⟨by rw [HF.out.1,HF.out.2];rfl,rfl⟩
theorem Zct:(Tryz.prog.info? 5).map (fun i=>(i.zero,i.size,i.bytes))=some (some (.int .u8 0),1,1):=by kernel_rfl
def bcs (l:List UInt8):List Value:=l.map fun b=>.int .u8 (b.toNat:Int)
theorem ZbV (a b:List UInt8):bcs (a++b)=bcs a++bcs b:=by simp [bcs]
theorem Zae (a:List UInt8):(bcs a).length=a.length:=by simp [bcs]
theorem ZcR (l:List UInt8) (x:Int) (h0:0<=x) (h1:x<256):bcs (l++[UInt8.ofNat x.toNat])=bcs l++[.int .u8 x]:=by
 rw [ZbV]
 congr 1
 simp only [bcs,List.map_cons,List.map_nil,UInt8.toNat_ofNat']
 congr 2
 omega
theorem ZdO (x:Int):∀ u ∈ [Value.int .u8 x],u.oneCell'=true:=by intro u hu;simp at hu;subst hu;rfl
theorem ZaK {a:Nat} (h:a<=140737488355328):a<=maxLen:=by unfold maxLen;omega
theorem ZH {B:Nat} {w:World} (o:Obj) (h:B<=w.heap.size):B<=(w.alloc o).heap.size:=by simp;omega
theorem ZbQ {w:World} {base n:Nat} {v:Value} {l:List UInt8} (h:w.ownsRow base 5 1 v n (bcs l)) :
 (convert 93 9 v).run Tryz.prog w=.ok (.string ⟨l.toArray⟩) w:=by
 have hlen:=h.1;rw [Zae,Nat.mul_one] at hlen;rcases h.2 with ⟨rfl,h0⟩ | ⟨g,cap,cur,rfl,_,hg,_,_,_,htk⟩
 ·have:l=[]:=List.eq_nil_of_length_eq_zero (by omega);subst this;exact Lib.run_convert_nil_bytes w _ _ _ _ U93 U5 U9
 ·subst hlen;rw [Nat.mul_one] at htk;exact run_convert_bytes_back w _ _ _ _ cap l U93 U5 U9
   (fun j hj=>Lib.cells_of_row hg l.length j _ (by rw [htk];simp [bcs,hj]))
theorem ZhT {B n:Nat} {a w w1:World} {v:Value} {e:TypeId} {xs:List Value} {o:Obj} (G:Below B a w) (hown:w.ownsRow B e 1 v n xs) (hB:B<=w.heap.size)
 (hg:(w.alloc o).grownBy w1 v.ownBlock):Below B a w1 :=
 (G.alloc hB o).grown hg (by simp;omega) (fun k hk=>(hown.lt k hk).1)
theorem Zut (n:Int) (w:World) (h:n<0\/2147483647<n) :
 Calls Tryz.prog 121 #[.int .i64 n] w fun e w'=>e=.returned (.tuple #[.string ⟨#[]⟩,.int .i64 3])/\Below w.heap.size w w':=by
 by_cases h1:n<0
 ·clear h;go_enter Tryz.func121,Tryz.ntmps121
  go_wp2
  go_ret2
  exact ⟨rfl,bR _ _⟩
 ·have h2:2147483647<n:=by omega
  clear h;go_enter Tryz.func121,Tryz.ntmps121
  go_wp2
  go_ret2
  exact ⟨rfl,bR _ _⟩
theorem ZgA (n:Int) (w:World) (h0:0<=n) (h:n<=2147483647) :
 Calls Tryz.prog 121 #[.int .i64 n] w fun e w'=>e=.returned (.tuple #[.string ⟨(Nm.nb n.toNat).toArray⟩,.int .i64 0])/\Below w.heap.size w w':=by
 obtain ⟨i0,hi,hz0,hz1,hz2⟩:=info_parts Zct;have hd1:decide (n<0)=false:=by simp;omega
 have hd2:decide (2147483647<n)=false:=by simp;omega
 go_enter Tryz.func121,Tryz.ntmps121
 go_wp2
 go_loopw [0,4] (fun nv bv wr=>∃ (m:Int) (l:List UInt8),0<=m/\m<=2147483647/\nv=.int .i64 m/\Hid (Nm.nb n.toNat=l++Nm.nb m.toNat)/\wr.ownsRow w.heap.size 5 1 bv l.length (bcs l)/\Below w.heap.size w wr)
  (fun nv _ _=>(intOf nv).toNat)
 case atStart=>exact ⟨n,[],h0,h,rfl,rfl,World.ownsRow_nil _ _ _ _,bR _ _⟩
 case round =>
  obtain ⟨m,l,hm0,hm,rfl,hl,hown,G⟩:=hrel
  have hlen:l.length<=5:=by
   have h5:=Nm.Zt n.toNat (by omega);rw [hl.out,List.length_append] at h5;omega
  have hsz:=G.size;by_cases hlt:128<=m
  ·go_wp2_with (at_builtin;refine wpList_append_own _ rfl _ _ 93 rfl w.heap.size 5 i0 (.int .u8 0) 1 1 U93 hi hz0 hz1 hz2 rfl (by decide) _ _ _ rfl (hown.alloc _) ⟨wr.heap.size,0,none⟩ 1 1 [.int .u8 (m % 128+128)] rfl rfl (cell_one_new _ _ _) (ZdO _) (ZaK (by omega)) (by omega) (ZH _ hsz) ?_;intro v' w1 hown' hgrow _)
   have G1:=ZhT G hown hsz hgrow;have e1:bcs (l++[UInt8.ofNat (m % 128+128).toNat])=bcs l++[.int .u8 (m % 128+128)]:=ZcR l _ (by omega) (by omega)
   have HL:Hid (Nm.nb n.toNat=(l++[UInt8.ofNat (m % 128+128).toNat])++Nm.nb (m / 128).toNat):=by
    show _=_
    have e2:Nm.nb m.toNat=UInt8.ofNat (m % 128+128).toNat :: Nm.nb (m / 128).toNat:=by
     rw [Nm.ZgV (n:=m.toNat) (by omega),show (m % 128+128).toNat=128+m.toNat % 128 by omega,show (m / 128).toNat=m.toNat / 128 by omega]
    rw [hl.out,e2,List.append_assoc,List.singleton_append]
   have HO:w1.ownsRow w.heap.size 5 1 v' (l++[UInt8.ofNat (m % 128+128).toNat]).length (bcs (l++[UInt8.ofNat (m % 128+128).toNat])):=by
    rw [e1,List.length_append];exact hown'
   clear hown' hgrow hown e1 G hl;go_wp2
   go_roundw
   case rel=>exact ⟨m / 128,_,by omega,by omega,rfl,HL,HO,G1⟩
   case measure=>simp [intOf];omega
  ·have He:Hid (bcs (Nm.nb n.toNat)=bcs l++[.int .u8 m]):=by
    show _=_;rw [hl.out,Nm.ZdS (n:=m.toNat) (by omega)];exact ZcR l _ (by omega) (by omega)
   clear hl;go_wp2_with (at_builtin;refine wpList_append_own _ rfl _ _ 93 rfl w.heap.size 5 i0 (.int .u8 0) 1 1 U93 hi hz0 hz1 hz2 rfl (by decide) _ _ _ rfl (hown.alloc _) ⟨wr.heap.size,0,none⟩ 1 1 [.int .u8 m] rfl rfl (cell_one_new _ _ _) (ZdO _) (ZaK (by omega)) (by omega) (ZH _ hsz) ?_;intro v' w1 hown' hgrow _;have hcv:=ZbQ (l:=Nm.nb n.toNat) (by rw [He.out];exact hown'))
   go_ret2
   exact ⟨rfl,ZhT G hown hsz hgrow⟩
theorem ZtA (s:ByteArray) (w:World) (hs:s.size<=281474976710656) (h:512<s.size) :
 Calls Tryz.prog 122 #[.string s] w fun e w'=>e=.returned (.tuple #[.string ⟨#[]⟩,.int .i64 2])/\Below w.heap.size w w':=by
 have h2:(512:Int)<(s.size:Int):=by omega
 go_enter Tryz.func122,Tryz.ntmps122
 go_wp2_with fail
 go_ret2
 exact ⟨rfl,bR _ _⟩
theorem Zpg (s:ByteArray) (w:World) (h:s.size<=512) :
 Calls Tryz.prog 122 #[.string s] w fun e w'=>e=.returned (.tuple #[.string (⟨(Nm.nb s.size).toArray⟩++s),.int .i64 0])/\Below w.heap.size w w':=by
 have h2:(s.size:Int)<=512:=by omega
 have hc:=ZgA s.size w (by omega) (by omega);rw [Int.toNat_natCast] at hc;have hl:=Nm.Zt s.size (by omega);go_enter Tryz.func122,Tryz.ntmps122
 go_wp2_with fail
 refine hc.mono ?_;rintro e w' ⟨rfl,G⟩;clear hc;generalize hL:Nm.nb s.size=L at *;have HL:Hid (Nm.nb s.size=L):=hL;clear hL;go_wp2_with fail
 go_ret2
 exact ⟨by rw [HL.out];rfl,G⟩
theorem Zbo (x:Int) (h0:0<=x) (h1:x<256) (W:World) (g:Nat) (hc:W.cell? ⟨g,0,none⟩=some (.int .u8 x)) :
 (convert 93 9 (.slice (some ⟨g,0,none⟩) 1 1)).run Tryz.prog W=.ok (.string ⟨#[UInt8.ofNat x.toNat]⟩) W:=by
 refine run_convert_bytes_back W _ _ _ ⟨g,0,none⟩ 1 [UInt8.ofNat x.toNat] U93 U5 U9 (fun j hj=>?_);have:j=0:=by simpa using hj
 subst this;show W.cell? ⟨g,0,none⟩=_;rw [hc];simp only [List.getElem_cons_zero,UInt8.toNat_ofNat']
 congr 2
 omega
theorem ZF (k:Nat):∀ (n:Int) (w:World),0<=n->n<=k->n<=2147483647 →
 Calls Tryz.prog 83 #[.int .i64 n] w fun e w'=>e=.returned (.string ⟨(Nm.nb n.toNat).toArray⟩)/\Below w.heap.size w w':=by
 induction k with
 | zero =>
  intro n w h0 hk _;obtain rfl:n=0:=by omega
  have hcv:=Zbo 0 (by omega) (by omega);go_enter Tryz.func83,Tryz.ntmps83
  go_wp2_with fail
  go_ret
  exact ⟨rfl,(bR _ _).alloc (nl _) _⟩
 | succ k ih =>
  intro n w h0 hk hb;by_cases hn:n<128
  ·have hcv:=Zbo n (by omega) (by omega);have HN:Hid (Nm.nb n.toNat=[UInt8.ofNat n.toNat]):=Nm.ZdS (by omega);clear ih;go_enter Tryz.func83,Tryz.ntmps83
   go_wp2_with fail
   go_ret
   exact ⟨by rw [HN.out];rfl,(bR _ _).alloc (nl _) _⟩
  ·have hcv:=Zbo (128+n % 128) (by omega) (by omega)
   have IH:Hid (∀ (n:Int) (w:World),0<=n->n<=k->n<=2147483647 →
    Calls Tryz.prog 83 #[.int .i64 n] w fun e w'=>e=.returned (.string ⟨(Nm.nb n.toNat).toArray⟩)/\Below w.heap.size w w'):=ih
   clear ih;have hl:(Nm.nb (n / 128).toNat).length<=5:=Nm.Zt _ (by omega)
   have HN:Hid (Nm.nb n.toNat=UInt8.ofNat (128+n % 128).toNat :: Nm.nb (n / 128).toNat):=by
    show _=_;rw [Nm.ZgV (n:=n.toNat) (by omega),show (128+n % 128).toNat=128+n.toNat % 128 by omega,show (n / 128).toNat=n.toNat / 128 by omega]
   have hr1:IntKind.i64.wrap (128+n % 128)=128+n % 128:=IntWalk.i64_in _ ⟨by omega,by omega⟩;have hr3:n.tmod 128=n % 128:=Int.tmod_eq_emod_of_nonneg h0;have hr4:n.tdiv 128=n / 128:=Int.tdiv_eq_ediv_of_nonneg h0;have hr5:IntKind.i64.wrap (n / 128)=n / 128:=IntWalk.i64_in _ ⟨by omega,by omega⟩;have hr2:IntKind.u8.wrap (128+n % 128)=128+n % 128:=IntWalk.u8_in _ ⟨by omega,by omega⟩;go_enter Tryz.func83,Tryz.ntmps83
   go_wp2_with fail
   go_region_with (go_at_call 83;refine (IH.out _ _ (by omega) (by omega) (by omega)).mono ?_;rintro e w1 ⟨rfl,hB⟩;have hk1:=Zuc hB)
   all_goals go_wp2
   all_goals go_ret
   all_goals refine ⟨?_,?_⟩
   all_goals first | exact congrArg (fun s=>Ending.returned (Value.string s)) ((Nm.ZdN [_] _).trans (by rw [HN.out];rfl)) | skip
   all_goals first | exact bch ((bR _ _).alloc (nl _) _).drew hB (nl _) | exact bch (bR _ _).drew hB (nl _) | exact (bch (bR _ _).drew hB (nl _)).alloc hB.size _ | skip
theorem Zck (s:ByteArray) (w:World) (hs:s.size<=281474976710656) :
 Calls Tryz.prog 99 #[.string s] w fun e w'=>e=.returned (.tuple #[.int .i64 (Nm.num s:Nat),.string (Nm.rest s),.bool (Nm.is s)])/\Below w.heap.size w w':=by
 have hs2:(s.size:Int)<=281474976710656:=by omega
 clear hs;go_enter Tryz.func99,Tryz.ntmps99
 go_wp2_with fail
 go_loop [5,6,7] (fun n p i=>∃ k:Nat,k<=s.size/\k<=5/\i=.int .i64 k/\n=.int .i64 (Nm.val (s.data.toList.take k):Nat)/\p=.int .i64 (128 ^ k:Int)/\Hid (∀ j,j<k->∀ b,s.data.toList[j]?=some b->128<=b.toNat)) (fun _ _ i=>5 - (intOf i).toNat)
 case atStart=>exact ⟨0,by omega,by omega,rfl,rfl,rfl,fun j h=>by omega⟩
 case round =>
  obtain ⟨k,hk,hk5,rfl,rfl,rfl,hall⟩:=hrel;have hvl:=Nm.ZrC (s.data.toList.take k);generalize hm:Nm.val (s.data.toList.take k)=m at *;have Hm:Hid (Nm.val (s.data.toList.take k)=m):=hm;clear hm;by_cases hlt:k<s.size/\k<5
  ·obtain ⟨h1,h2⟩:=hlt
   have hmb:(m:Int)<268435456:=by
    have h3:(s.data.toList.take k).length<=4:=by rw [List.length_take];omega
    have h4:128 ^ (s.data.toList.take k).length<=128 ^ 4:=Nat.pow_le_pow_right (by omega) h3;omega
   clear hvl
   obtain ⟨x,hx⟩:∃ x:Int,(s[k].toNat:Int)=x:=⟨_,rfl⟩
   have hx0:0<=x:=by omega
   have hx1:x<=255:=by have:=s[k].toNat_lt;omega
   generalize hp:(128:Int) ^ k=p at *
   have hp1:p<=268435456:=by
    rw [<-hp];have:k=0\/k=1\/k=2\/k=3\/k=4:=by omega
    rcases this with rfl | rfl | rfl | rfl | rfl <;> decide
   have hp0:0<p:=by rw [<-hp];exact Int.pow_pos (by omega)
   obtain ⟨y,hy⟩:∃ y:Int,p*(x % 128)=y:=⟨_,rfl⟩
   have hy0:0<=y:=by rw [<-hy];exact Int.mul_nonneg (by omega) (by omega)
   have hy1:y<=34359738368:=by
    rw [<-hy];have h9:p*(x % 128)<=268435456*128:=Int.mul_le_mul hp1 (by omega) (by omega) (by omega);omega
   have Hp:Hid ((128:Int) ^ k=p):=hp;have Hx:Hid ((s[k].toNat:Int)=x):=hx
   have Hv:Hid ((Nm.val (s.data.toList.take (k+1)):Int)=(m:Int)+y):=by
    show (Nm.val (s.data.toList.take (k+1)):Int)=(m:Int)+y;rw [Nm.Zjw s k h1,Hm.out,<-hy,<-hx,<-hp,Nat.pow_mul];simp [Int.mul_comm]
   clear hp;have hl5:decide ((k:Int)<5)=true:=by simp;omega
   have hl6:decide ((k:Int)<(s.size:Int))=true:=by simp;omega
   have hl7:decide (k<5)=true:=by simp;omega
   have hl8:decide (k<s.size)=true:=by simp;omega
   by_cases hb:128<=x
   ·have hb2:decide (x<128)=false:=by simp;omega
    go_wp2_with fail
    go_round
    case rel =>
     refine ⟨k+1,by omega,by omega,by go_num,by rw [<-Hv.out],by rw [Int.pow_succ,Hp.out],?_⟩;show ∀ j,_;intro j hj b hjb;by_cases hjk:j=k
     ·subst hjk;rw [Nm.ZN s j h1] at hjb;simp only [Option.some.injEq] at hjb;subst hjb;have:=Hx.out;omega
     ·exact hall.out j (by omega) b hjb
    case measure=>simp [intOf];omega
   ·have hb2:decide (x<128)=true:=by simp;omega
    have Hf:Hid (Nm.Zl s.data.toList=if Nm.val (s.data.toList.take (k+1))<=2147483647/\Nm.nb (Nm.val (s.data.toList.take (k+1)))=s.data.toList.take (k+1) then some (Nm.val (s.data.toList.take (k+1)),k+1) else none) :=
     Nm.ZpJ s.data.toList k s[k] (by omega) (Nm.ZN s k h1) (by omega) hall.out
    have hr1:IntKind.i64.wrap ((k:Int)+1)=(k:Int)+1:=IntWalk.i64_in _ ⟨by omega,by omega⟩;by_cases hbig:2147483647<(m:Int)+y
    ·have hb3:decide (2147483647<(m:Int)+y)=true:=by simp;omega
     have h7:Nm.Zl s.data.toList=none:=by
      rw [Hf.out,if_neg];have:=Hv.out;omega
     have HF:Hid (Nm.num s=0/\Nm.rest s=⟨#[]⟩/\Nm.is s=false):=⟨(Nm.ZaA h7).1,Nm.ZaW h7⟩
     clear h7;go_wp2_with fail
     go_quiet (fail)
     go_wp2_with fail
     go_ret3
     exact ⟨by rw [HF.out.1,HF.out.2.1,HF.out.2.2];rfl,below_drewN (bR _ _) _⟩
    ·have hb3:decide (2147483647<(m:Int)+y)=false:=by simp;omega
     have hi1:(0:Int)<=(k:Int)+1:=by omega
     have hi2:(k:Int)+1<=(s.size:Int):=by omega
     have HV:Hid (Nm.val (s.data.toList.take (k+1))=((m:Int)+y).toNat):=by
      show _=_;have:=Hv.out;omega
     have hL:(s.extract 0 (k+1)).toList=s.data.toList.take (k+1):=by
      rw [Lib.toList_data,Lib.extract_data];simp
     by_cases hE:Nm.nb ((m:Int)+y).toNat=s.data.toList.take (k+1)
     ·have hq:(Nm.nb ((m:Int)+y).toNat == (s.extract 0 (k+1)).toList)=true:=by rw [hL,hE];simp
      have h7:Nm.Zl s.data.toList=some (((m:Int)+y).toNat,k+1):=by
       rw [Hf.out,HV.out,if_pos ⟨by omega,hE⟩]
      have HF:Hid ((Nm.num s:Int)=(m:Int)+y/\Nm.rest s=s.extract (k+1) s.size/\Nm.is s=true) :=
       ⟨by rw [(Nm.Zby h7).1];omega,Nm.ZbC h7⟩
      clear h7 hE hL;go_wp2_with fail
      go_region_held3 (fun _=>True) (trivial) (first | (go_at_call 83;refine (ZF ((m:Int)+y).toNat _ _ (by omega) (by omega) (by omega)).mono ?_;rintro e w1 ⟨rfl,hB⟩))
      go_wp2_with fail
      go_quiet (fail)
      go_wp2_with fail
      go_ret3
      exact ⟨by rw [HF.out.1,HF.out.2.1,HF.out.2.2];rfl,below_drewN (bch (bR _ _).drew hB (nl _)) _⟩
     ·have hq:(Nm.nb ((m:Int)+y).toNat == (s.extract 0 (k+1)).toList)=false:=by rw [hL];simp [hE]
      have h7:Nm.Zl s.data.toList=none:=by
       rw [Hf.out,HV.out,if_neg (fun h=>hE h.2)]
      have HF:Hid (Nm.num s=0/\Nm.rest s=⟨#[]⟩/\Nm.is s=false):=⟨(Nm.ZaA h7).1,Nm.ZaW h7⟩
      clear h7 hE hL;go_wp2_with fail
      go_region_held3 (fun _=>True) (trivial) (first | (go_at_call 83;refine (ZF ((m:Int)+y).toNat _ _ (by omega) (by omega) (by omega)).mono ?_;rintro e w1 ⟨rfl,hB⟩))
      go_wp2_with fail
      go_ret3
      exact ⟨by rw [HF.out.1,HF.out.2.1,HF.out.2.2];rfl,bch (bR _ _).drew hB (nl _)⟩
  ·have h7:Nm.Zl s.data.toList=none:=by
    refine Nm.ZgC _ ?_;intro j hj b hjb;refine hall.out j ?_ b hjb
    have:j<s.size:=by
     rcases Nat.lt_or_ge j s.size with h | h
     ·exact h
     ·rw [List.getElem?_eq_none (by simpa using h)] at hjb;simp at hjb
    omega
   have HF:Hid (Nm.num s=0/\Nm.rest s=⟨#[]⟩/\Nm.is s=false):=⟨(Nm.ZaA h7).1,Nm.ZaW h7⟩
   clear h7 hvl;by_cases hks:k<s.size
   ·have hl6:decide ((k:Int)<(s.size:Int))=true:=by simp;omega
    have hl5:decide ((k:Int)<5)=false:=by simp;omega
    have hl7:decide (k<5)=false:=by simp;omega
    have hl8:decide (k<s.size)=true:=by simp;omega
    clear hlt;go_wp2_with fail
    go_ret3
    exact ⟨by rw [HF.out.1,HF.out.2.1,HF.out.2.2];rfl,bR _ _⟩
   ·have hl6:decide ((k:Int)<(s.size:Int))=false:=by simp;omega
    have hl8:decide (k<s.size)=false:=by simp;omega
    clear hlt;go_wp2_with fail
    go_ret3
    exact ⟨by rw [HF.out.1,HF.out.2.1,HF.out.2.2];rfl,bR _ _⟩
theorem Zdd (s:ByteArray) (w:World) (hs:s.size<=281474976710656) (h:Nm.Zl s.data.toList=none) :
 Calls Tryz.prog 99 #[.string s] w fun e w'=>e=.returned (.tuple #[.int .i64 0,.string ⟨#[]⟩,.bool false])/\Below w.heap.size w w':=by
 have hc:=Zck s w hs;rw [(Nm.ZaA h).1,(Nm.ZaW h).1,(Nm.ZaW h).2] at hc;exact hc
theorem ZaS (s:ByteArray) (w:World) (n k:Nat) (hs:s.size<=281474976710656) (h:Nm.Zl s.data.toList=some (n,k)) :
 Calls Tryz.prog 99 #[.string s] w fun e w'=>e=.returned (.tuple #[.int .i64 n,.string (s.extract k s.size),.bool true])/\Below w.heap.size w w':=by
 have hc:=Zck s w hs;rw [(Nm.Zby h).1,(Nm.ZbC h).1,(Nm.ZbC h).2] at hc;exact hc
theorem Zgg (s:ByteArray) (w:World) (hs:s.size<=281474976710656) (h:Nm.Zl s.data.toList=none) :
 Calls Tryz.prog 175 #[.string s] w fun e w'=>e=.returned (.tuple #[.int .i64 0,.string ⟨#[]⟩,.int .i64 1])/\Below w.heap.size w w':=by
 have hn:=Nm.ZaA h;have hc:=ZbH s w (by unfold maxLen;omega);rw [hn.1,hn.2] at hc;clear h hn;go_enter Tryz.func175,Tryz.ntmps175
 go_wp2_with fail
 refine hc.mono ?_;rintro e w' ⟨rfl,rfl⟩;go_wp2_with fail
 go_ret3
 exact ⟨rfl,bR _ _⟩
theorem Zbw (s:ByteArray) (w:World) (n k:Nat) (hs:s.size<=281474976710656) (h:Nm.Zl s.data.toList=some (n,k)) :
 Calls Tryz.prog 175 #[.string s] w fun e w'=>e=.returned (.tuple #[.int .i64 n,.string (s.extract k s.size),.int .i64 0])/\Below w.heap.size w w':=by
 have hn:=Nm.Zby h;have hc:=ZbH s w (by unfold maxLen;omega);rw [hn.1,hn.2] at hc;have hb:=Nm.Zai h;have hk1:(1:Int)<=(k:Int):=by omega
 have hk2:k<=s.size:=by simpa using hb.2.2.1
 have hk0:((k:Int) == 0)=false:=by simp;omega
 clear h hn hb;go_enter Tryz.func175,Tryz.ntmps175
 go_wp2_with fail
 refine hc.mono ?_;rintro e w' ⟨rfl,rfl⟩;clear hc;go_wp2_with fail
 refine (ZP _ _ (by simp;omega)).mono ?_;rintro e w' ⟨rfl,hb⟩;go_wp2_with fail
 go_ret3
 exact ⟨rfl,hb⟩
theorem ZfG (s:ByteArray) (w:World) (hs:s.size<=281474976710656) (h:Nm.Zl s.data.toList=none) :
 Calls Tryz.prog 153 #[.string s] w fun e w'=>e=.returned (.tuple #[.string ⟨#[]⟩,.string ⟨#[]⟩,.int .i64 1])/\Below w.heap.size w w':=by
 have hn:=Nm.ZaA h;have hc:=ZbH s w (by unfold maxLen;omega);rw [hn.1,hn.2] at hc;clear h hn;go_enter Tryz.func153,Tryz.ntmps153
 go_wp2_with fail
 refine hc.mono ?_;rintro e w' ⟨rfl,rfl⟩;clear hc;go_wp2_with fail
 go_ret3
 exact ⟨rfl,bR _ _⟩
theorem ZiC (s:ByteArray) (w:World) (n k:Nat) (hs:s.size<=281474976710656) (h:Nm.Zl s.data.toList=some (n,k)) (hbad:512<n\/s.size<k+n) :
 Calls Tryz.prog 153 #[.string s] w fun e w'=>e=.returned (.tuple #[.string ⟨#[]⟩,.string ⟨#[]⟩,.int .i64 1])/\Below w.heap.size w w':=by
 have hn:=Nm.Zby h;have hc:=ZbH s w (by unfold maxLen;omega);rw [hn.1,hn.2] at hc;have hb:=Nm.Zai h;have hn9:(n:Int)<=2147483647:=by omega
 have hk1:(1:Int)<=(k:Int):=by omega
 have hk2:k<=s.size:=by simpa using hb.2.2.1
 have hk0:((k:Int) == 0)=false:=by simp;omega
 clear h hn hb;by_cases hbig:512<n
 ·have hb2:(512:Int)<(n:Int):=by omega
  clear hbad;go_enter Tryz.func153,Tryz.ntmps153
  go_wp2_with fail
  refine hc.mono ?_;rintro e w' ⟨rfl,rfl⟩;clear hc;go_wp2_with fail
  go_ret3
  exact ⟨rfl,bR _ _⟩
 ·have hb2:(n:Int)<=512:=by omega
  have hb3:(s.size:Int) - (k:Int)<(n:Int):=by omega
  clear hbad;go_enter Tryz.func153,Tryz.ntmps153
  go_wp2_with fail
  refine hc.mono ?_;rintro e w' ⟨rfl,rfl⟩;clear hc;go_wp2_with fail
  go_ret3
  exact ⟨rfl,bR _ _⟩
theorem ZhG (s:ByteArray) (w:World) (n k:Nat) (hs:s.size<=281474976710656) (h:Nm.Zl s.data.toList=some (n,k)) (hn5:n<=512) (hfit:k+n<=s.size) :
 Calls Tryz.prog 153 #[.string s] w fun e w'=>e=.returned (.tuple #[.string (s.extract k (k+n)),.string (s.extract (k+n) s.size),.int .i64 0])/\Below w.heap.size w w':=by
 have hn:=Nm.Zby h;have hc:=ZbH s w (by unfold maxLen;omega);rw [hn.1,hn.2] at hc;have hb:=Nm.Zai h;have hk1:(1:Int)<=(k:Int):=by omega
 have hk2:k<=s.size:=by simpa using hb.2.2.1
 have hk0:((k:Int) == 0)=false:=by simp;omega
 have ht1:decide ((512:Int)<(n:Int))=false:=by simp;omega
 have ht2:decide ((s.size:Int) - (k:Int)<(n:Int))=false:=by simp;omega
 have hi1:(k:Int)<=(k:Int)+(n:Int):=by omega
 have hi2:(k:Int)+(n:Int)<=(s.size:Int):=by omega
 have hi3:(0:Int)<=(k:Int)+(n:Int):=by omega
 clear h hn hb;go_enter Tryz.func153,Tryz.ntmps153
 go_wp2_with fail
 refine hc.mono ?_;rintro e w' ⟨rfl,rfl⟩;clear hc;go_wp2_with fail
 have G:Below w'.heap.size w' w':=bR _ _;go_region_with (go_at_call 69;refine (ZP _ _ (Nm.ZcM hs)).mono ?_;rintro e w1 ⟨rfl,hb⟩;replace G:Below _ _ w1:=(by first | exact bch G hb (nl _) | exact bch G.drew hb (nl _));clear hb)
 all_goals go_wp2
 all_goals go_ret3
 all_goals (rw [show ((k:Int)+(n:Int)).toNat=k+n by omega];exact ⟨rfl,G⟩)
def ZaF (s:ByteArray):Nat->Nat
 | 0=>0
 | k+1=>(ZaF s k+(s.data.toList[k]?.getD 0).toNat*((k+1) % 65536)) % 65536
theorem Zgm (s:ByteArray) (k:Nat):ZaF s k<65536:=by
 cases k with
 | zero=>simp [ZaF]
 | succ k=>exact Nat.mod_lt _ (by omega)
theorem Zft (s:ByteArray) (k:Nat) (h:k<s.size):(ZaF s (k+1):Int)=((ZaF s k:Int)+(s[k].toNat:Int)*(((k:Int)+1) % 65536)) % 65536:=by
 rw [ZaF,Nm.ZN s k h];simp
theorem ZoD (s:ByteArray) (k:Nat) (h:k<s.size):(ZaF s (k+1):Int)=((ZaF s k:Int)+((k:Int) % 65536+1)*(s[k].toNat:Int)) % 65536:=by
 rw [Zft s k h];by_cases h1:(k:Int) % 65536+1<65536
 ·rw [show ((k:Int)+1) % 65536=(k:Int) % 65536+1 by omega,Int.mul_comm]
 ·rw [show ((k:Int)+1) % 65536=0 by omega,show (k:Int) % 65536+1=65536 by omega];omega
theorem Zmt (s:ByteArray) (w:World) (hs:s.size<=281474976710656) :
 Calls Tryz.prog 93 #[.string s] w fun e w'=>e=.returned (.int .i64 (ZaF s s.size:Nat))/\w'=w:=by
 have hs2:(s.size:Int)<=281474976710656:=by omega
 clear hs;go_enter Tryz.func93,Tryz.ntmps93
 go_wp2_with fail
 go_loop [3,7] (fun n i=>∃ k:Nat,k<=s.size/\i=.int .i64 k/\n=.int .i64 (ZaF s k:Nat)) (fun _ i=>s.size - (intOf i).toNat)
 case atStart=>exact ⟨0,by omega,rfl,rfl⟩
 case round =>
  obtain ⟨k,hk,rfl,rfl⟩:=hrel;have hv:=Zgm s k;by_cases hlt:k<s.size
  ·have Hs:Hid ((ZaF s (k+1):Int)=((ZaF s k:Int)+(s[k].toNat:Int)*(((k:Int)+1) % 65536)) % 65536):=Zft s k hlt;generalize ZaF s k=m at *;generalize hm:ZaF s (k+1)=m1 at *
   obtain ⟨x,hx⟩:∃ x:Int,(s[k].toNat:Int)=x:=⟨_,rfl⟩
   have hx0:0<=x:=by omega
   have hx1:x<=255:=by have:=s[k].toNat_lt;omega
   have Hx:Hid ((s[k].toNat:Int)=x):=hx
   obtain ⟨y,hy⟩:∃ y:Int,x*(((k:Int)+1) % 65536)=y:=⟨_,rfl⟩
   have hy0:0<=y:=by rw [<-hy];exact Int.mul_nonneg (by omega) (by omega)
   have hy1:y<=16777216:=by
    rw [<-hy];have h9:x*(((k:Int)+1) % 65536)<=255*65536:=Int.mul_le_mul hx1 (by omega) (by omega) (by omega);omega
   have HM:Hid (ZaF s (k+1)=m1):=hm;clear hm;have HY:Hid (x*(((k:Int)+1) % 65536)=y):=hy;have hmb:(m:Int)<65536:=by omega
   clear hv;go_wp2_with fail
   go_round
   case rel=>exact ⟨k+1,by omega,by go_num,by rw [HM.out,Hs.out,Hx.out,HY.out]⟩
   case measure=>simp [intOf];omega
  ·obtain rfl:k=s.size:=by omega
   go_wp2_with fail
   go_ret
   exact ⟨rfl,rfl⟩
theorem Zev (s:ByteArray) (w:World) (hs:s.size<=281474976710656) :
 Calls Tryz.prog 64 #[.string s] w fun e w'=>e=.returned (.int .i64 (ZaF s s.size:Nat))/\w'=w:=by
 have hs2:(s.size:Int)<=281474976710656:=by omega
 clear hs;go_enter Tryz.func64,Tryz.ntmps64
 go_wp2_with fail
 go_loop [3,4] (fun n i=>∃ k:Nat,k<=s.size/\i=.int .i64 k/\n=.int .i64 (ZaF s k:Nat)) (fun _ i=>s.size - (intOf i).toNat)
 case atStart=>exact ⟨0,by omega,rfl,rfl⟩
 case round =>
  obtain ⟨k,hk,rfl,rfl⟩:=hrel;have hv:=Zgm s k;by_cases hlt:k<s.size
  ·have Hs:Hid ((ZaF s (k+1):Int)=((ZaF s k:Int)+((k:Int) % 65536+1)*(s[k].toNat:Int)) % 65536):=ZoD s k hlt;generalize ZaF s k=m at *;generalize hm:ZaF s (k+1)=m1 at *
   obtain ⟨x,hx⟩:∃ x:Int,(s[k].toNat:Int)=x:=⟨_,rfl⟩
   have hx0:0<=x:=by omega
   have hx1:x<=255:=by have:=s[k].toNat_lt;omega
   have Hx:Hid ((s[k].toNat:Int)=x):=hx
   obtain ⟨y,hy⟩:∃ y:Int,((k:Int) % 65536+1)*x=y:=⟨_,rfl⟩
   have hy0:0<=y:=by rw [<-hy];exact Int.mul_nonneg (by omega) (by omega)
   have hy1:y<=16777216:=by
    rw [<-hy];have h9:((k:Int) % 65536+1)*x<=65536*255:=Int.mul_le_mul (by omega) hx1 (by omega) (by omega);omega
   have HM:Hid (ZaF s (k+1)=m1):=hm;clear hm;have HY:Hid (((k:Int) % 65536+1)*x=y):=hy;have hmb:(m:Int)<65536:=by omega
   clear hv;go_wp2_with fail
   go_round
   case rel=>exact ⟨k+1,by omega,by go_num,by rw [HM.out,Hs.out,Hx.out,HY.out]⟩
   case measure=>simp [intOf];omega
  ·obtain rfl:k=s.size:=by omega
   go_wp2_with fail
   go_ret
   exact ⟨rfl,rfl⟩
def arr (f:Nat->Int):Array Value:=((List.range 16).map fun i=>Value.int .i64 (f i)).toArray
theorem Zi (f:Nat->Int):(arr f).size=16:=by simp [arr]
theorem Zcc (f:Nat->Int) (i:Nat) (h:i<16):(arr f)[i]?=some (.int .i64 (f i)):=by simp [arr,h]
theorem Zqw:(Tryz.prog.info? 127).map (·.size)=some 16:=by kernel_rfl
theorem Zc (f:Nat->Int):(Tryz.prog.info? 127).map (·.size)=some (arr f).size:=by rw [Zi];exact Zqw
theorem ZjP (f:Nat->Int) (k:Nat) (h:k<16) (w:World):(Instr.index 127 (.agg (arr f)) (.int .i64 (k:Int))).run Tryz.prog w=.ok (.int .i64 (f k)) w:=by
 have h1:=Zcc f k h;have h2:(0:Int)<=(k:Int)/\(k:Int)<((16:Nat):Int):=by omega
 generalize arr f=c at *;simp [Instr.index,run_underlying Tryz.underlying127,asIntOf,go_sem,h2,part,h1];intro h9;omega
end Go.Proofs.YtbjbjbpgmojcbabGreat
namespace Go.Proofs.YtbjbjbpgmojcbabGreat.Cd
def InR (f:Nat->Int) (hi:Int) (k:Nat):Prop:=∀ i,i<k->0<=f i/\f i<=hi
instance (f:Nat->Int) (hi:Int) (k:Nat):Decidable (InR f hi k):=inferInstanceAs (Decidable (∀ i,i<k->0<=f i/\f i<=hi))
theorem InR.succ {f:Nat->Int} {hi:Int} {k:Nat} (h:InR f hi k) (h1:0<=f k) (h2:f k<=hi):InR f hi (k+1):=fun i hlt=>by
 rcases Nat.lt_succ_iff_lt_or_eq.1 hlt with h3 | rfl
 ·exact h i h3
 ·exact ⟨h1,h2⟩
theorem Zik {f:Nat->Int} {hi:Int} {k n:Nat} (hk:k<n) (h:f k<0\/hi<f k):¬ InR f hi n:=fun h9=>by have:=h9 k hk;omega
def wt (x:Int):Int:=if 0<x then 2 ^ (15 - x).toNat else 0
def sm (f:Nat->Int):Nat->Int
 | 0=>0
 | k+1=>sm f k+wt (f k)
theorem ZbE {a b:Nat} (h:a<=b):(2:Int) ^ a<=2 ^ b:=by
 have:=Nat.pow_le_pow_right (show 0<2 by omega) h
 exact_mod_cast this
theorem pow_pos (a:Nat):(1:Int)<=2 ^ a:=by
 have:0<2 ^ a:=Nat.pow_pos (by omega)
 exact_mod_cast this
theorem Zfo {x:Int} (h:0<x):wt x=2 ^ (15 - x).toNat:=by rw [wt,if_pos h]
theorem Zdn {x:Int} (h:¬ 0<x):wt x=0:=by rw [wt,if_neg h]
theorem wt_b {x:Int} (h0:0<=x) (h1:x<=15):0<=wt x/\wt x<=16384:=by
 unfold wt;split
 ·have h2:(2:Int) ^ (15 - x).toNat<=2 ^ 14:=ZbE (by omega);have h3:=pow_pos (15 - x).toNat;omega
 ·omega
theorem sm_b {f:Nat->Int}:∀ k,InR f 15 k->0<=sm f k/\sm f k<=16384*k:=by
 intro k
 induction k with
 | zero=>intro _;simp [sm]
 | succ k ih =>
  intro h;have h1:=ih (fun i hi=>h i (by omega));have h2:=h k (by omega);have h3:=wt_b h2.1 h2.2;rw [sm];omega
def used (f:Nat->Int):Nat->Bool
 | 0=>false
 | k+1=>used f k || decide (0<f k)
theorem ZsA {f:Nat->Int}:∀ k,InR f 15 k->(sm f k=0 ↔ used f k=false):=by
 intro k
 induction k with
 | zero=>intro _;simp [sm,used]
 | succ k ih =>
  intro h;have h0:InR f 15 k:=fun i hi=>h i (by omega)
  have h1:=ih h0;have h2:=h k (by omega);have h3:=sm_b k h0;rw [sm,used];by_cases hp:0<f k
  ·rw [Zfo hp];have:=pow_pos (15 - f k).toNat;simp [hp];omega
  ·rw [Zdn hp];simp [hp,h1]
def chk (f:Nat->Int):Int:=if InR f 15 16 then (if sm f 16=0\/32768<sm f 16 then 1 else 0) else 3
theorem Zow {f:Nat->Int} {k:Nat} (hk:k<16) (h:f k<0\/15<f k):chk f=3:=by rw [chk,if_neg (Zik hk h)]
theorem Zko {f:Nat->Int} (h:InR f 15 16) (h1:sm f 16=0\/32768<sm f 16):chk f=1:=by rw [chk,if_pos h,if_pos h1]
theorem Zhj {f:Nat->Int} (h:InR f 15 16) (h1:¬ (sm f 16=0\/32768<sm f 16)):chk f=0:=by rw [chk,if_pos h,if_neg h1]
theorem Zd {f:Nat->Int} (h:chk f=0):InR f 15 16/\sm f 16 ≠ 0/\sm f 16<=32768:=by
 unfold chk at h;by_cases h1:InR f 15 16
 ·rw [if_pos h1] at h;by_cases h2:sm f 16=0\/32768<sm f 16
  ·rw [if_pos h2] at h;omega
  ·exact ⟨h1,by omega,by omega⟩
 ·rw [if_neg h1] at h;omega
def cst (f c:Nat->Int):Nat->Option Int
 | 0=>some 0
 | k+1=>match cst f c k with
  | none=>none
  | some n=>if 0<c k/\f k=0 then none else some (n+c k*f k)
def cost (f c:Nat->Int):Int × Int :=
 if chk f ≠ 0 then (0,chk f) else if ¬ InR c 2048 16 then (0,3) else match cst f c 16 with | none=>(0,5) | some n=>(n,0)
end Go.Proofs.YtbjbjbpgmojcbabGreat.Cd
namespace Go.Proofs.YtbjbjbpgmojcbabGreat.Tk
structure T where
 lit:ByteArray
 far:Int
 len:Int
def copy (far:Nat):Nat->List UInt8->List UInt8
 | 0,s=>s
 | n+1,s=>copy far n (s++[s.getD (s.length - far) 0])
theorem ZeE (far:Nat):∀ (n:Nat) (s:List UInt8),(copy far n s).length=s.length+n:=by
 intro n
 induction n with
 | zero=>intro s;rfl
 | succ n ih=>intro s;rw [copy,ih];simp;omega
theorem Zew (far:Nat):∀ (n:Nat) (s:List UInt8),copy far (n+1) s=copy far n s++[(copy far n s).getD ((copy far n s).length - far) 0]:=by
 intro n
 induction n with
 | zero=>intro s;rfl
 | succ n ih=>intro s;rw [copy,ih];rfl
def err (d:Nat) (s:List UInt8) (p:Bool) (t:T):Int :=
 if t.lit.size ≠ 0 then
  if t.far ≠ 0\/t.len ≠ 0\/p=true then 1
  else if 512<(s.length:Int) - d+t.lit.size then 2 else 0
 else if ¬ (3<=t.len/\t.len<=64/\1<=t.far/\t.far<=s.length) then 1
 else if 512<(s.length:Int) - d+t.len then 2 else 0
def make (s:List UInt8) (t:T):List UInt8 :=
 if t.lit.size ≠ 0 then s++t.lit.data.toList else copy t.far.toNat t.len.toNat s
def run (d:Nat):List UInt8->Bool->List T->Int × List UInt8
 | s,_,[]=>(0,s)
 | s,p,t :: l=>if err d s p t ≠ 0 then (err d s p t,[]) else run d (make s t) (decide (t.lit.size ≠ 0)) l
theorem Zaf {d:Nat} {s:List UInt8} {p:Bool} {t:T} {l:List T} (h:err d s p t ≠ 0):run d s p (t :: l)=(err d s p t,[]):=by simp [run,h]
theorem Zal {d:Nat} {s:List UInt8} {p:Bool} {t:T} {l:List T} (h:err d s p t=0):run d s p (t :: l)=run d (make s t) (decide (t.lit.size ≠ 0)) l:=by simp [run,h]
theorem Zcs {d:Nat} {s:List UInt8} {p:Bool} {t:T} (h:err d s p t=0):(make s t).length=s.length+t.lit.size+t.len.toNat/\0<=t.len/\(t.lit.size=0->1<=t.far/\t.far<=s.length/\3<=t.len/\t.len<=64)/\(t.lit.size ≠ 0->t.far=0/\t.len=0)/\((s.length:Int) - d+t.lit.size+t.len<=512):=by
 unfold err at h;unfold make;by_cases h0:t.lit.size ≠ 0
 ·rw [if_pos h0] at h;rw [if_pos h0];by_cases h1:t.far ≠ 0\/t.len ≠ 0\/p=true
  ·rw [if_pos h1] at h;omega
  ·rw [if_neg h1] at h;by_cases h2:512<(s.length:Int) - d+t.lit.size
   ·rw [if_pos h2] at h;omega
   ·have hf:t.far=0:=by
     by_cases e:t.far=0
     ·exact e
     ·exact absurd (Or.inl e) h1
    have hl:t.len=0:=by
     by_cases e:t.len=0
     ·exact e
     ·exact absurd (Or.inr (Or.inl e)) h1
    refine ⟨?_,by omega,fun e=>absurd e h0,fun _=>⟨hf,hl⟩,by omega⟩;simp [hl]
 ·rw [if_neg h0] at h;rw [if_neg h0];by_cases h1:3<=t.len/\t.len<=64/\1<=t.far/\t.far<=s.length
  ·rw [if_neg (by simpa using h1)] at h;by_cases h2:512<(s.length:Int) - d+t.len
   ·rw [if_pos h2] at h;omega
   ·refine ⟨?_,by omega,fun _=>by omega,fun e=>absurd e h0,by omega⟩;rw [ZeE];omega
  ·rw [if_pos h1] at h;omega
end Go.Proofs.YtbjbjbpgmojcbabGreat.Tk
