/- A part of the proof: what it leans on. -/
import Derived.Test.YtbjbjbpgmojcbacGreatLk17
set_option maxRecDepth 4000
set_option maxHeartbeats 2000000
namespace Go.Proofs.YtbjbjbpgmojcbacGreat
open Go.RowKit
namespace Tr
def TxAt (w:World) (b off:Nat) (xs:List ByteArray):Prop:=b<w.heap.size/\∀ i,i<xs.length->w.cell? ⟨b,off+i,none⟩=some (.string (xa xs i))
theorem TxAt.below {w w':World} {b off:Nat} {xs:List ByteArray} (h:TxAt w b off xs) (hb:Below w.heap.size w w'):TxAt w' b off xs:=⟨Nat.lt_of_lt_of_le h.1 hb.size,fun i hi=>by rw [<-h.2 i hi];exact hb.cell (p:=⟨b,off+i,none⟩) h.1⟩
def lgK (xs:List ByteArray):Nat->Option Nat
 | 0=>none
 | k+1=>match lgK xs k with
  | some i=>some i
  | none=>if 512<(xa xs k).size then some k else none
theorem ZdJ {xs:List ByteArray} {k i:Nat} (h:lgK xs k=some i):∀ j,lgK xs (k+j)=some i:=by
 intro j
 induction j with
 | zero=>exact h
 | succ j ih=>rw [<-Nat.add_assoc,lgK,ih]
def many (xs:List ByteArray):Bool:=decide (12<xs.length) || (lgK xs xs.length).isSome
end Tr
theorem Zir (t:ByteArray) (w:World) :
 Calls Tryz.prog 97 #[.string t] w fun e w'=>e=.returned (.bool (decide ((512:Int)<(t.size:Int))))/\Below w.heap.size w w':=by
 go_enter Tryz.func97,Tryz.ntmps97
 go_wp2_with fail
 go_ret
 exact ⟨rfl,bR _ _⟩
theorem Zfn (xs:List ByteArray) (b off cap:Nat) (w:World) (hx:Tr.TxAt w b off xs) (hn2:xs.length<=1000) (hB:∀ i,(Tr.xa xs i).size<=140737488355328) :
 Calls Tryz.prog 65 #[.slice (some ⟨b,off,none⟩) xs.length cap,.func (.func 97) #[] #[]] w fun e w'=>e=.returned (.int .i64 (match Tr.lgK xs xs.length with | none=>-1 | some i=>(i:Int)))/\Below w.heap.size w w':=by
 have HX:Hid (∀ w',Tr.TxAt w' b off xs->∀ i,i<xs.length->w'.cell? ⟨b,off+i,none⟩=some (.string (Tr.xa xs i))):=fun w' h=>h.2
 have HB:Hid (∀ i,(Tr.xa xs i).size<=140737488355328):=hB;clear hB
 obtain ⟨r,hr⟩:∃ r,(match Tr.lgK xs xs.length with | none=>(-1:Int) | some i=>(i:Int))=r:=⟨_,rfl⟩
 rw [hr];have Hr:Hid ((match Tr.lgK xs xs.length with | none=>(-1:Int) | some i=>(i:Int))=r):=hr;clear hr;go_enter Tryz.func65,Tryz.ntmps65
 go_wp2_with fail
 go_loopw [8] (fun i wr=>∃ k:Nat,k<=xs.length/\i=.int .i64 k/\Hid (Tr.lgK xs k=none)/\Tr.TxAt wr b off xs/\Below w.heap.size w wr) (fun i _=>xs.length - (intOf i).toNat)
 case atStart=>exact ⟨0,by omega,rfl,rfl,hx,bR _ _⟩
 case round =>
  clear hx;obtain ⟨k,hk2,rfl,HL,hx,B1⟩:=hrel;by_cases hlt:k<xs.length
  ·have d1:decide ((k:Int)<(xs.length:Int))=true:=by simp;omega
   have d1':decide (k<xs.length)=true:=by simp;omega
   have hki:(k:Int)<(xs.length:Int):=by omega
   have c1:=HX.out wr hx k hlt;have z1:=HB.out k;have c2:=fun w=>Zir (Tr.xa xs k) w
   by_cases hs:512<(Tr.xa xs k).size
   ·have HN:Hid (Tr.lgK xs (k+1)=some k):=by show _=_;rw [Tr.lgK,HL.out];exact if_pos hs
    have HR:Hid ((k:Int)=r):=by
     have h9:=Tr.ZdJ HN.out (xs.length - (k+1));rw [show k+1+(xs.length - (k+1))=xs.length by omega] at h9;have:=Hr.out;rw [h9] at this;exact this
    have d2:decide ((512:Int)<((Tr.xa xs k).size:Int))=true:=zdT (by omega);rw [d2] at c2;generalize Tr.xa xs k=X at *;clear HN hs d2;go_wp2_with fail
    refine (c2 _).mono ?_;rintro e w2 ⟨rfl,G⟩;have B2:=bch B1 G (nl _);go_wp2_with fail
    go_ret
    exact ⟨congrArg (fun x=>Ending.returned (Value.int .i64 x)) HR.out,B2⟩
   ·have HN:Hid (Tr.lgK xs (k+1)=none):=by show _=_;rw [Tr.lgK,HL.out];exact if_neg hs
    have d2:decide ((512:Int)<((Tr.xa xs k).size:Int))=false:=dF (by omega);rw [d2] at c2;generalize Tr.xa xs k=X at *;clear hs d2;go_wp2_with fail
    refine (c2 _).mono ?_;rintro e w2 ⟨rfl,G⟩;have B2:=bch B1 G (nl _);have hx2:=hx.below G;clear B1 G hx;go_wp2_with fail
    go_roundw
    case rel=>exact ⟨k+1,by omega,by go_num,HN,hx2,B2⟩
    case measure=>simp [intOf];omega
  ·obtain rfl:k=xs.length:=by omega
   have HR:Hid ((-1:Int)=r):=by have:=Hr.out;rw [HL.out] at this;exact this
   have d1:decide ((xs.length:Int)<(xs.length:Int))=false:=by simp
   clear Hr;go_wp2_with fail
   go_ret
   exact ⟨congrArg (fun x=>Ending.returned (Value.int .i64 x)) HR.out,B1⟩
theorem ZfX (ad:Option Addr) (cap:Nat) (w:World) :
 Calls Tryz.prog 65 #[.slice ad 0 cap,.func (.func 97) #[] #[]] w fun e w'=>e=.returned (.int .i64 (-1))/\Below w.heap.size w w':=by
 go_enter Tryz.func65,Tryz.ntmps65
 go_wp2_with fail
 go_loopw [8] (fun i wr=>i=.int .i64 0/\Below w.heap.size w wr) (fun i _=>0)
 case atStart=>exact ⟨rfl,bR _ _⟩
 case round =>
  obtain ⟨rfl,B1⟩:=hrel;go_wp2_with fail
  go_ret
  exact ⟨rfl,B1⟩
def TxSl (w:World) (ad:Option Addr) (xs:List ByteArray):Prop:=xs=[]\/∃ b off,ad=some ⟨b,off,none⟩/\Tr.TxAt w b off xs
theorem TxSl.below {w w':World} {ad:Option Addr} {xs:List ByteArray} (h:TxSl w ad xs) (hb:Below w.heap.size w w'):TxSl w' ad xs:=by
 rcases h with h | ⟨b,off,h1,h2⟩
 ·exact .inl h
 ·exact .inr ⟨b,off,h1,h2.below hb⟩
theorem ZfY (xs:List ByteArray) (ad:Option Addr) (cap:Nat) (w:World) (hx:TxSl w ad xs) (hn2:xs.length<=1000) (hB:∀ i,(Tr.xa xs i).size<=140737488355328) :
 Calls Tryz.prog 65 #[.slice ad xs.length cap,.func (.func 97) #[] #[]] w fun e w'=>e=.returned (.int .i64 (match Tr.lgK xs xs.length with | none=>-1 | some i=>(i:Int)))/\Below w.heap.size w w':=by
 rcases hx with rfl | ⟨b,off,rfl,h2⟩
 ·exact ZfX ad cap w
 ·exact Zfn xs b off cap w h2 hn2 hB
theorem Zim (xs:List ByteArray) (ad:Option Addr) (cap:Nat) (w:World) (hx:TxSl w ad xs) (hn2:xs.length<=1000) (hB:∀ i,(Tr.xa xs i).size<=140737488355328) :
 Calls Tryz.prog 94 #[.slice ad xs.length cap,.func (.func 97) #[] #[]] w fun e w'=>e=.returned (.bool (Tr.lgK xs xs.length).isSome)/\Below w.heap.size w w':=by
 have c1:=ZfY xs ad cap w hx hn2 hB
 cases hq:Tr.lgK xs xs.length with
 | none =>
  rw [hq] at c1;simp only at c1;clear hq;go_enter Tryz.func94,Tryz.ntmps94
  go_wp2_with fail
  refine c1.mono ?_;rintro e w1 ⟨rfl,G⟩;go_wp2_with fail
  go_ret
  exact ⟨rfl,G⟩
 | some i =>
  rw [hq] at c1;simp only at c1;clear hq;have h0:(0:Int)<=(i:Int):=by omega
  have d0:decide ((0:Int)<=(i:Int))=true:=zdT h0;go_enter Tryz.func94,Tryz.ntmps94
  go_wp2_with fail
  refine c1.mono ?_;rintro e w1 ⟨rfl,G⟩;go_wp2_with fail
  go_ret
  exact ⟨rfl,G⟩
theorem Zcj (xs:List ByteArray) (ad:Option Addr) (cap:Nat) (w:World) (hx:TxSl w ad xs) (hB:∀ i,(Tr.xa xs i).size<=140737488355328) :
 Calls Tryz.prog 63 #[.slice ad xs.length cap] w fun e w'=>e=.returned (.bool (Tr.many xs))/\Below w.heap.size w w':=by
 unfold Tr.many;by_cases hn:12<xs.length
 ·have hn':(12:Int)<(xs.length:Int):=by omega
  rw [decide_eq_true hn];go_enter Tryz.func63,Tryz.ntmps63
  go_wp2_with fail
  go_ret
  exact ⟨rfl,bR _ _⟩
 ·have hn':(xs.length:Int)<=12:=by omega
  have c1:=fun w hx=>Zim xs ad cap w hx (by omega) hB
  rw [decide_eq_false hn,Bool.false_or];generalize (Tr.lgK xs xs.length).isSome=r at *;go_enter Tryz.func63,Tryz.ntmps63
  go_wp2_with fail
  refine (c1 _ hx).mono ?_;rintro e w1 ⟨rfl,G⟩;go_wp2_with fail
  go_ret
  exact ⟨rfl,G⟩
def fv (f:Ar.F):Value:=.agg #[.string f.name,.int .i64 f.dict,.int .i64 f.size,.int .i64 f.sum,.string f.blk]
structure FlC (w:World) (b o:Nat) (f:Ar.F):Prop where
 c0:w.cell? ⟨b,o,none⟩=some (.string f.name)
 c1:w.cell? ⟨b,o+1,none⟩=some (.int .i64 f.dict)
 c2:w.cell? ⟨b,o+2,none⟩=some (.int .i64 f.size)
 c3:w.cell? ⟨b,o+3,none⟩=some (.int .i64 f.sum)
 c4:w.cell? ⟨b,o+4,none⟩=some (.string f.blk)
def FlAt (w:World) (b off:Nat) (fs:List Ar.F):Prop:=b<w.heap.size/\∀ i,i<fs.length->FlC w b (off+i*5) (Ar.fa fs i)
theorem FlC.below {w w':World} {b o:Nat} {f:Ar.F} (h:FlC w b o f) (hb:Below w.heap.size w w') (hlt:b<w.heap.size):FlC w' b o f :=
 ⟨(hb.cell (p:=⟨b,o,none⟩) hlt).trans h.c0,(hb.cell (p:=⟨b,o+1,none⟩) hlt).trans h.c1,(hb.cell (p:=⟨b,o+2,none⟩) hlt).trans h.c2,(hb.cell (p:=⟨b,o+3,none⟩) hlt).trans h.c3,(hb.cell (p:=⟨b,o+4,none⟩) hlt).trans h.c4⟩
theorem FlAt.below {w w':World} {b off:Nat} {fs:List Ar.F} (h:FlAt w b off fs) (hb:Below w.heap.size w w'):FlAt w' b off fs :=
 ⟨nT h.1 hb.size,fun i hi=>(h.2 i hi).below hb h.1⟩
def FlSl (w:World) (ad:Option Addr) (fs:List Ar.F):Prop:=fs=[]\/∃ b off,ad=some ⟨b,off,none⟩/\FlAt w b off fs
theorem FlSl.below {w w':World} {ad:Option Addr} {fs:List Ar.F} (h:FlSl w ad fs) (hb:Below w.heap.size w w'):FlSl w' ad fs:=by
 rcases h with h | ⟨b,off,h1,h2⟩
 ·exact .inl h
 ·exact .inr ⟨b,off,h1,h2.below hb⟩
def av (ad:Option Addr) (cd:Nat) (af:Option Addr) (cf:Nat) (a:Ar.A):Value:=.agg #[.slice ad a.dicts.length cd,.slice af a.files.length cf]
structure ArV (w:World) (ad af:Option Addr) (a:Ar.A):Prop where
 ds:TxSl w ad a.dicts
 fs:FlSl w af a.files
theorem ArV.below {w w':World} {ad af:Option Addr} {a:Ar.A} (h:ArV w ad af a) (hb:Below w.heap.size w w'):ArV w' ad af a:=⟨h.ds.below hb,h.fs.below hb⟩
structure SaneA (a:Ar.A):Prop where
 nd:a.dicts.length<=8796093022208
 nf:a.files.length<=8796093022208
 ds:∀ i,(Tr.xa a.dicts i).size<=140737488355328
 nm:∀ i,(Ar.fa a.files i).name.size<=140737488355328
 bk:∀ i,(Ar.fa a.files i).blk.size<=140737488355328
theorem SaneA.dct {a:Ar.A} (h:SaneA a) (n:Int):(Ar.dct a.dicts n).size<=140737488355328:=by
 unfold Ar.dct;split
 ·show 0<=_;omega
 ·exact h.ds _
namespace Ar
theorem Zbf {b:ByteArray} {k:Nat} (h:nmK b k=false):∀ j,nmK b (k+j)=false:=by
 intro j
 induction j with
 | zero=>exact h
 | succ j ih=>rw [<-Nat.add_assoc,nmK,ih,Bool.false_and]
end Ar
theorem ZmH (s:ByteArray) (k:Nat) (h:k<s.size):Cd.at8 s k=s[k].toNat:=by
 unfold Cd.at8;rw [Nm.ZL s k h];rfl
theorem ZdF {b:ByteArray} (h:0<b.size):b.toList.isEmpty=false:=by
 rw [ByteArray.toList_eq,List.isEmpty_eq_false_iff];intro e;have:=congrArg List.length e;simp at this;rw [this] at h;exact absurd h (by decide)
theorem Zji {b:ByteArray} (h:b.size=0):b=⟨#[]⟩:=by
 cases b with | mk d=>congr;exact Array.eq_empty_of_size_eq_zero h
theorem ZS (n lo hi:Int) (w:World) :
 Calls Tryz.prog 38 #[.int .i64 n,.int .i64 lo,.int .i64 hi] w fun e w'=>e=.returned (.bool (decide (lo<=n/\n<=hi)))/\w'=w:=by
 by_cases h1:lo<=n
 ·have d1:decide (lo<=n)=true:=zdT h1;by_cases h2:n<=hi
  ·have d2:decide (n<=hi)=true:=zdT h2;rw [decide_eq_true ⟨h1,h2⟩];go_enter Tryz.func38,Tryz.ntmps38
   go_wp2_with fail
   go_ret
   exact ⟨rfl,rfl⟩
  ·have d2:decide (n<=hi)=false:=dF h2;rw [decide_eq_false (fun h=>h2 h.2)];go_enter Tryz.func38,Tryz.ntmps38
   go_wp2_with fail
   go_ret
   exact ⟨rfl,rfl⟩
 ·have d1:decide (lo<=n)=false:=dF h1;rw [decide_eq_false (fun h=>h1 h.1)];go_enter Tryz.func38,Tryz.ntmps38
  go_wp2_with fail
  go_ret
  exact ⟨rfl,rfl⟩
theorem Zoi (s:ByteArray) (w:World) (h0:0<s.size) (h1:s.size<=12) :
 Calls Tryz.prog 25 #[.string s] w fun e w'=>e=.returned (.bool (Ar.nmK s s.size))/\w'=w:=by
 have hne:=ZdF h0;have hne2:(s.toList == [])=false:=by rw [<-hne];cases s.toList <;> rfl
 have h1':(s.size:Int)<=12:=by omega
 have h0':(1:Int)<=(s.size:Int):=by omega
 obtain ⟨r,hr⟩:∃ r,Ar.nmK s s.size=r:=⟨_,rfl⟩
 rw [hr];have Hr:Hid (Ar.nmK s s.size=r):=hr;clear hr;go_enter Tryz.func25,Tryz.ntmps25
 go_wp2_with fail
 go_loopw [14] (fun i wr=>∃ k:Nat,k<=s.size/\i=.int .i64 k/\Hid (Ar.nmK s k=true)/\wr=w) (fun i _=>s.size - (intOf i).toNat)
 case atStart=>exact ⟨0,by omega,rfl,rfl,rfl⟩
 case round =>
  obtain ⟨k,hk2,rfl,HL,rfl⟩:=hrel;by_cases hlt:k<s.size
  ·have d1:decide ((k:Int)<(s.size:Int))=true:=by simp;omega
   have d1':decide (k<s.size)=true:=by simp;omega
   have hki:(k:Int)<(s.size:Int):=by omega
   have HY0:=ZmH s k hlt
   obtain ⟨y,hc⟩:∃ y,s[k].toNat=y:=⟨_,rfl⟩
   rw [hc] at HY0;have HY:Hid (Cd.at8 s k=y):=HY0;clear HY0;have hy5:y<256:=by rw [<-hc];exact s[k].toNat_lt
   by_cases k1:97<=y
   ·by_cases k2:y<=122
    ·have f0:decide ((y:Int)<97)=false:=dF (by omega);have g0:¬ ((y:Int)<97):=by omega
     have f1:decide ((122:Int)<(y:Int))=false:=dF (by omega);have g1:¬ ((122:Int)<(y:Int)):=by omega
     have HN:Hid (Ar.nmK s (k+1)=true):=by show _=_;rw [Ar.nmK,HL.out,HY.out];simp [Ar.okc];omega
     clear Hr HY;go_wp2_with fail
     go_roundw
     case rel=>exact ⟨k+1,by omega,by go_num,HN,by trivial⟩
     case measure=>simp [intOf];omega
    ·have f0:decide ((y:Int)<97)=false:=dF (by omega);have g0:¬ ((y:Int)<97):=by omega
     have f1:decide ((122:Int)<(y:Int))=true:=zdT (by omega);have g1:(122:Int)<(y:Int):=by omega
     have f2:decide ((y:Int)<48)=false:=dF (by omega);have g2:¬ ((y:Int)<48):=by omega
     have f3:decide ((57:Int)<(y:Int))=true:=zdT (by omega);have g3:(57:Int)<(y:Int):=by omega
     have f5:((y:Int) == 46)=false:=by simp;omega
     have f6:((y:Int) != 46)=true:=by simp;omega
     have f7:decide ((y:Int)=46)=false:=dF (by omega)
     have HR:Hid (false=r):=by
      have hb:Ar.nmK s (k+1)=false:=by rw [Ar.nmK,HL.out,HY.out];simp [Ar.okc];omega
      have h9:=Ar.Zbf hb (s.size - (k+1));rw [show k+1+(s.size - (k+1))=s.size by omega] at h9;exact h9.symm.trans Hr.out
     clear Hr HY;go_wp2_with fail
     go_ret
     exact ⟨congrArg (fun x=>Ending.returned (Value.bool x)) HR.out,rfl⟩
   ·by_cases k3:48<=y
    ·by_cases k4:y<=57
     ·have f0:decide ((y:Int)<97)=true:=zdT (by omega);have g0:(y:Int)<97:=by omega
      have f1:decide ((122:Int)<(y:Int))=false:=dF (by omega);have g1:¬ ((122:Int)<(y:Int)):=by omega
      have f2:decide ((y:Int)<48)=false:=dF (by omega);have g2:¬ ((y:Int)<48):=by omega
      have f3:decide ((57:Int)<(y:Int))=false:=dF (by omega);have g3:¬ ((57:Int)<(y:Int)):=by omega
      have f5:((y:Int) == 46)=false:=by simp;omega
      have f6:((y:Int) != 46)=true:=by simp;omega
      have f7:decide ((y:Int)=46)=false:=dF (by omega);have HN:Hid (Ar.nmK s (k+1)=true):=by show _=_;rw [Ar.nmK,HL.out,HY.out];simp [Ar.okc];omega
      clear Hr HY;go_wp2_with fail
      go_roundw
      case rel=>exact ⟨k+1,by omega,by go_num,HN,by trivial⟩
      case measure=>simp [intOf];omega
     ·have f0:decide ((y:Int)<97)=true:=zdT (by omega);have g0:(y:Int)<97:=by omega
      have f1:decide ((122:Int)<(y:Int))=false:=dF (by omega);have g1:¬ ((122:Int)<(y:Int)):=by omega
      have f2:decide ((y:Int)<48)=false:=dF (by omega);have g2:¬ ((y:Int)<48):=by omega
      have f3:decide ((57:Int)<(y:Int))=true:=zdT (by omega);have g3:(57:Int)<(y:Int):=by omega
      have f5:((y:Int) == 46)=false:=by simp;omega
      have f6:((y:Int) != 46)=true:=by simp;omega
      have f7:decide ((y:Int)=46)=false:=dF (by omega)
      have HR:Hid (false=r):=by
       have hb:Ar.nmK s (k+1)=false:=by rw [Ar.nmK,HL.out,HY.out];simp [Ar.okc];omega
       have h9:=Ar.Zbf hb (s.size - (k+1));rw [show k+1+(s.size - (k+1))=s.size by omega] at h9;exact h9.symm.trans Hr.out
      clear Hr HY;go_wp2_with fail
      go_ret
      exact ⟨congrArg (fun x=>Ending.returned (Value.bool x)) HR.out,rfl⟩
    ·by_cases k5:y=46
     ·have f0:decide ((y:Int)<97)=true:=zdT (by omega);have g0:(y:Int)<97:=by omega
      have f1:decide ((122:Int)<(y:Int))=false:=dF (by omega);have g1:¬ ((122:Int)<(y:Int)):=by omega
      have f2:decide ((y:Int)<48)=true:=zdT (by omega);have g2:(y:Int)<48:=by omega
      have f3:decide ((57:Int)<(y:Int))=false:=dF (by omega);have g3:¬ ((57:Int)<(y:Int)):=by omega
      have f5:((y:Int) == 46)=true:=by simp;omega
      have f6:((y:Int) != 46)=false:=by simp;omega
      have f7:decide ((y:Int)=46)=true:=zdT (by omega);have HN:Hid (Ar.nmK s (k+1)=true):=by show _=_;rw [Ar.nmK,HL.out,HY.out];simp [Ar.okc];omega
      clear Hr HY;go_wp2_with fail
      go_roundw
      case rel=>exact ⟨k+1,by omega,by go_num,HN,by trivial⟩
      case measure=>simp [intOf];omega
     ·have f0:decide ((y:Int)<97)=true:=zdT (by omega);have g0:(y:Int)<97:=by omega
      have f1:decide ((122:Int)<(y:Int))=false:=dF (by omega);have g1:¬ ((122:Int)<(y:Int)):=by omega
      have f2:decide ((y:Int)<48)=true:=zdT (by omega);have g2:(y:Int)<48:=by omega
      have f3:decide ((57:Int)<(y:Int))=false:=dF (by omega);have g3:¬ ((57:Int)<(y:Int)):=by omega
      have f5:((y:Int) == 46)=false:=by simp;omega
      have f6:((y:Int) != 46)=true:=by simp;omega
      have f7:decide ((y:Int)=46)=false:=dF (by omega)
      have HR:Hid (false=r):=by
       have hb:Ar.nmK s (k+1)=false:=by rw [Ar.nmK,HL.out,HY.out];simp [Ar.okc];omega
       have h9:=Ar.Zbf hb (s.size - (k+1));rw [show k+1+(s.size - (k+1))=s.size by omega] at h9;exact h9.symm.trans Hr.out
      clear Hr HY;go_wp2_with fail
      go_ret
      exact ⟨congrArg (fun x=>Ending.returned (Value.bool x)) HR.out,rfl⟩
  ·obtain rfl:k=s.size:=by omega
   have d1:decide ((s.size:Int)<(s.size:Int))=false:=by simp
   have HR:Hid (true=r):=HL.out.symm.trans Hr.out;go_wp2_with fail
   go_ret
   exact ⟨congrArg (fun x=>Ending.returned (Value.bool x)) HR.out,rfl⟩
theorem Zav (s:ByteArray) (w:World) (hs:s.size<=140737488355328) :
 Calls Tryz.prog 25 #[.string s] w fun e w'=>e=.returned (.bool (Ar.isNm s))/\w'=w:=by
 unfold Ar.isNm;by_cases h0:s.size=0
 ·obtain rfl:=Zji h0;have e:(decide (1<=(⟨#[]⟩:ByteArray).size/\(⟨#[]⟩:ByteArray).size<=12) && Ar.nmK ⟨#[]⟩ (⟨#[]⟩:ByteArray).size)=false:=rfl;rw [e];go_enter Tryz.func25,Tryz.ntmps25
  go_wp2_with fail
  go_ret
  exact ⟨rfl,rfl⟩
 ·by_cases h1:s.size<=12
  ·rw [decide_eq_true ⟨by omega,h1⟩,Bool.true_and];exact Zoi s w (by omega) h1
  ·rw [decide_eq_false (by omega),Bool.false_and];have h1':(12:Int)<(s.size:Int):=by omega
   have d1:decide ((12:Int)<(s.size:Int))=true:=zdT h1';have hne:=ZdF (b:=s) (by omega);have hne2:(s.toList == [])=false:=by rw [<-hne];cases s.toList <;> rfl
   go_enter Tryz.func25,Tryz.ntmps25
   go_wp2_with fail
   go_ret
   exact ⟨rfl,rfl⟩
theorem ZhH (s:ByteArray) (w:World) (h0:0<s.size) (h1:s.size<=12) :
 Calls Tryz.prog 37 #[.string s] w fun e w'=>e=.returned (.bool (Ar.nmK s s.size))/\w'=w:=by
 have hne:=ZdF h0;have hne2:(s.toList == [])=false:=by rw [<-hne];cases s.toList <;> rfl
 have h1':(s.size:Int)<=12:=by omega
 have h0':(1:Int)<=(s.size:Int):=by omega
 obtain ⟨r,hr⟩:∃ r,Ar.nmK s s.size=r:=⟨_,rfl⟩
 rw [hr];have Hr:Hid (Ar.nmK s s.size=r):=hr;clear hr;have cw:=fun w=>ZS (s.size:Int) 1 12 w
 rw [decide_eq_true ⟨h0',h1'⟩] at cw;go_enter Tryz.func37,Tryz.ntmps37
 go_wp2_with fail
 refine (cw _).mono ?_;rintro e w1 ⟨rfl,rfl⟩;clear cw;go_wp2_with fail
 go_loopw [3] (fun i wr=>∃ k:Nat,k<=s.size/\i=.int .i64 k/\Hid (Ar.nmK s k=true)/\wr=w1) (fun i _=>s.size - (intOf i).toNat)
 case atStart=>exact ⟨0,by omega,rfl,rfl,rfl⟩
 case round =>
  obtain ⟨k,hk2,rfl,HL,rfl⟩:=hrel;by_cases hlt:k<s.size
  ·have d1:decide ((k:Int)<(s.size:Int))=true:=by simp;omega
   have d1':decide (k<s.size)=true:=by simp;omega
   have hki:(k:Int)<(s.size:Int):=by omega
   have HY0:=ZmH s k hlt
   obtain ⟨y,hc⟩:∃ y,s[k].toNat=y:=⟨_,rfl⟩
   rw [hc] at HY0;have HY:Hid (Cd.at8 s k=y):=HY0;clear HY0;have hy5:y<256:=by rw [<-hc];exact s[k].toNat_lt
   by_cases k1:97<=y
   ·by_cases k2:y<=122
    ·have f0:decide ((97:Int)<=(y:Int))=true:=zdT (by omega);have g0:(97:Int)<=(y:Int):=by omega
     have f1:decide ((y:Int)<=122)=true:=zdT (by omega);have g1:(y:Int)<=122:=by omega
     have HN:Hid (Ar.nmK s (k+1)=true):=by show _=_;rw [Ar.nmK,HL.out,HY.out];simp [Ar.okc];omega
     clear Hr HY;go_wp2_with fail
     go_roundw
     case rel=>exact ⟨k+1,by omega,by go_num,HN,by trivial⟩
     case measure=>simp [intOf];omega
    ·have f0:decide ((97:Int)<=(y:Int))=true:=zdT (by omega);have g0:(97:Int)<=(y:Int):=by omega
     have f1:decide ((y:Int)<=122)=false:=dF (by omega);have g1:¬ ((y:Int)<=122):=by omega
     have f2:decide ((48:Int)<=(y:Int))=true:=zdT (by omega);have g2:(48:Int)<=(y:Int):=by omega
     have f3:decide ((y:Int)<=57)=false:=dF (by omega);have g3:¬ ((y:Int)<=57):=by omega
     have f5:((y:Int) == 46)=false:=by simp;omega
     have f6:((y:Int) != 46)=true:=by simp;omega
     have f7:decide ((y:Int)=46)=false:=dF (by omega)
     have HR:Hid (false=r):=by
      have hb:Ar.nmK s (k+1)=false:=by rw [Ar.nmK,HL.out,HY.out];simp [Ar.okc];omega
      have h9:=Ar.Zbf hb (s.size - (k+1));rw [show k+1+(s.size - (k+1))=s.size by omega] at h9;exact h9.symm.trans Hr.out
     clear Hr HY;go_wp2_with fail
     go_ret
     exact ⟨congrArg (fun x=>Ending.returned (Value.bool x)) HR.out,rfl⟩
   ·by_cases k3:48<=y
    ·by_cases k4:y<=57
     ·have f0:decide ((97:Int)<=(y:Int))=false:=dF (by omega);have g0:¬ ((97:Int)<=(y:Int)):=by omega
      have f1:decide ((y:Int)<=122)=true:=zdT (by omega);have g1:(y:Int)<=122:=by omega
      have f2:decide ((48:Int)<=(y:Int))=true:=zdT (by omega);have g2:(48:Int)<=(y:Int):=by omega
      have f3:decide ((y:Int)<=57)=true:=zdT (by omega);have g3:(y:Int)<=57:=by omega
      have f5:((y:Int) == 46)=false:=by simp;omega
      have f6:((y:Int) != 46)=true:=by simp;omega
      have f7:decide ((y:Int)=46)=false:=dF (by omega);have HN:Hid (Ar.nmK s (k+1)=true):=by show _=_;rw [Ar.nmK,HL.out,HY.out];simp [Ar.okc];omega
      clear Hr HY;go_wp2_with fail
      go_roundw
      case rel=>exact ⟨k+1,by omega,by go_num,HN,by trivial⟩
      case measure=>simp [intOf];omega
     ·have f0:decide ((97:Int)<=(y:Int))=false:=dF (by omega);have g0:¬ ((97:Int)<=(y:Int)):=by omega
      have f1:decide ((y:Int)<=122)=true:=zdT (by omega);have g1:(y:Int)<=122:=by omega
      have f2:decide ((48:Int)<=(y:Int))=true:=zdT (by omega);have g2:(48:Int)<=(y:Int):=by omega
      have f3:decide ((y:Int)<=57)=false:=dF (by omega);have g3:¬ ((y:Int)<=57):=by omega
      have f5:((y:Int) == 46)=false:=by simp;omega
      have f6:((y:Int) != 46)=true:=by simp;omega
      have f7:decide ((y:Int)=46)=false:=dF (by omega)
      have HR:Hid (false=r):=by
       have hb:Ar.nmK s (k+1)=false:=by rw [Ar.nmK,HL.out,HY.out];simp [Ar.okc];omega
       have h9:=Ar.Zbf hb (s.size - (k+1));rw [show k+1+(s.size - (k+1))=s.size by omega] at h9;exact h9.symm.trans Hr.out
      clear Hr HY;go_wp2_with fail
      go_ret
      exact ⟨congrArg (fun x=>Ending.returned (Value.bool x)) HR.out,rfl⟩
    ·by_cases k5:y=46
     ·have f0:decide ((97:Int)<=(y:Int))=false:=dF (by omega);have g0:¬ ((97:Int)<=(y:Int)):=by omega
      have f1:decide ((y:Int)<=122)=true:=zdT (by omega);have g1:(y:Int)<=122:=by omega
      have f2:decide ((48:Int)<=(y:Int))=false:=dF (by omega);have g2:¬ ((48:Int)<=(y:Int)):=by omega
      have f3:decide ((y:Int)<=57)=true:=zdT (by omega);have g3:(y:Int)<=57:=by omega
      have f5:((y:Int) == 46)=true:=by simp;omega
      have f6:((y:Int) != 46)=false:=by simp;omega
      have f7:decide ((y:Int)=46)=true:=zdT (by omega);have HN:Hid (Ar.nmK s (k+1)=true):=by show _=_;rw [Ar.nmK,HL.out,HY.out];simp [Ar.okc];omega
      clear Hr HY;go_wp2_with fail
      go_roundw
      case rel=>exact ⟨k+1,by omega,by go_num,HN,by trivial⟩
      case measure=>simp [intOf];omega
     ·have f0:decide ((97:Int)<=(y:Int))=false:=dF (by omega);have g0:¬ ((97:Int)<=(y:Int)):=by omega
      have f1:decide ((y:Int)<=122)=true:=zdT (by omega);have g1:(y:Int)<=122:=by omega
      have f2:decide ((48:Int)<=(y:Int))=false:=dF (by omega);have g2:¬ ((48:Int)<=(y:Int)):=by omega
      have f3:decide ((y:Int)<=57)=true:=zdT (by omega);have g3:(y:Int)<=57:=by omega
      have f5:((y:Int) == 46)=false:=by simp;omega
      have f6:((y:Int) != 46)=true:=by simp;omega
      have f7:decide ((y:Int)=46)=false:=dF (by omega)
      have HR:Hid (false=r):=by
       have hb:Ar.nmK s (k+1)=false:=by rw [Ar.nmK,HL.out,HY.out];simp [Ar.okc];omega
       have h9:=Ar.Zbf hb (s.size - (k+1));rw [show k+1+(s.size - (k+1))=s.size by omega] at h9;exact h9.symm.trans Hr.out
      clear Hr HY;go_wp2_with fail
      go_ret
      exact ⟨congrArg (fun x=>Ending.returned (Value.bool x)) HR.out,rfl⟩
  ·obtain rfl:k=s.size:=by omega
   have d1:decide ((s.size:Int)<(s.size:Int))=false:=by simp
   have HR:Hid (true=r):=HL.out.symm.trans Hr.out;go_wp2_with fail
   go_ret
   exact ⟨congrArg (fun x=>Ending.returned (Value.bool x)) HR.out,rfl⟩
theorem ZaA (s:ByteArray) (w:World) (hs:s.size<=140737488355328) :
 Calls Tryz.prog 37 #[.string s] w fun e w'=>e=.returned (.bool (Ar.isNm s))/\w'=w:=by
 unfold Ar.isNm;by_cases h0:s.size=0
 ·obtain rfl:=Zji h0;have e:(decide (1<=(⟨#[]⟩:ByteArray).size/\(⟨#[]⟩:ByteArray).size<=12) && Ar.nmK ⟨#[]⟩ (⟨#[]⟩:ByteArray).size)=false:=rfl;rw [e];have cw:=fun w=>ZS 0 1 12 w
  go_enter Tryz.func37,Tryz.ntmps37
  go_wp2_with fail
  refine (cw _).mono ?_;rintro e w1 ⟨rfl,rfl⟩;go_wp2_with fail
  go_ret
  exact ⟨rfl,rfl⟩
 ·by_cases h1:s.size<=12
  ·rw [decide_eq_true ⟨by omega,h1⟩,Bool.true_and];exact ZhH s w (by omega) h1
  ·rw [decide_eq_false (by omega),Bool.false_and];have h1':(12:Int)<(s.size:Int):=by omega
   have d1:decide ((12:Int)<(s.size:Int))=true:=zdT h1';have hne:=ZdF (b:=s) (by omega);have hne2:(s.toList == [])=false:=by rw [<-hne];cases s.toList <;> rfl
   have cw:=fun w=>ZS (s.size:Int) 1 12 w
   rw [decide_eq_false (by omega)] at cw;go_enter Tryz.func37,Tryz.ntmps37
   go_wp2_with fail
   refine (cw _).mono ?_;rintro e w1 ⟨rfl,rfl⟩;go_wp2_with fail
   go_ret
   exact ⟨rfl,rfl⟩
theorem box2 (w:World) (a b:Array Value) (s t:TypeId):(∀ i,((w.alloc (.cells a s (0,0))).alloc (.cells b t (0,0))).cell? ⟨w.heap.size,i,none⟩=a[i]?)/\∀ i,((w.alloc (.cells a s (0,0))).alloc (.cells b t (0,0))).cell? ⟨w.heap.size+1,i,none⟩=b[i]?:=by
 constructor
 ·intro i;rw [World.cell?_alloc_lt _ _ _ (by simp),World.cell?_alloc_new]
 ·intro i;have e:(w.alloc (.cells a s (0,0))).heap.size=w.heap.size+1:=by simp
  rw [<-e,World.cell?_alloc_new]
theorem Zaw (ad af:Option Addr) (cd cf:Nat) (a:Ar.A) (n:Int) (w:World) (hd:a.dicts.length<=8796093022208) :
 Calls Tryz.prog 26 #[av ad cd af cf a,.int .i64 n] w fun e w'=>e=.returned (.bool (Ar.has a.dicts n))/\Below w.heap.size w w':=by
 unfold av Ar.has;generalize a.dicts.length=D at *;generalize a.files.length=F at *;have hD:(D:Int)<=8796093022208:=by omega
 by_cases h1:0<=n
 ·have d1:decide ((0:Int)<=n)=true:=zdT h1;by_cases h2:n<=(D:Int)
  ·have d2:decide (n<=(D:Int))=true:=zdT h2;rw [decide_eq_true ⟨h1,h2⟩];go_enter Tryz.func26,Tryz.ntmps26
   go_wp2_with fail
   go_ret
   exact ⟨rfl,(bR _ _).alloc (nl _) _⟩
  ·have d2:decide (n<=(D:Int))=false:=dF h2;rw [decide_eq_false (fun h=>h2 h.2)];go_enter Tryz.func26,Tryz.ntmps26
   go_wp2_with fail
   go_ret
   exact ⟨rfl,(bR _ _).alloc (nl _) _⟩
 ·have d1:decide ((0:Int)<=n)=false:=dF h1;rw [decide_eq_false (fun h=>h1 h.1)];go_enter Tryz.func26,Tryz.ntmps26
  go_wp2_with fail
  go_ret
  exact ⟨rfl,(bR _ _).alloc (nl _) _⟩
theorem TxSl.at {w:World} {ad:Option Addr} {xs:List ByteArray} (h:TxSl w ad xs) {i:Nat} (hi:i<xs.length):∃ b off,ad=some ⟨b,off,none⟩/\b<w.heap.size/\w.cell? ⟨b,off+i,none⟩=some (.string (Tr.xa xs i)):=by
 rcases h with rfl | ⟨b,off,h1,h2⟩
 ·simp at hi
 ·exact ⟨b,off,h1,h2.1,h2.2 i hi⟩
theorem ZbU (ad af:Option Addr) (cd cf:Nat) (a:Ar.A) (n:Int) (w:World) (hd:TxSl w ad a.dicts) (hl:a.dicts.length<=8796093022208) (hn:Ar.has a.dicts n=true) :
 Calls Tryz.prog 57 #[av ad cd af cf a,.int .i64 n] w fun e w'=>e=.returned (.string (Ar.dct a.dicts n))/\Below w.heap.size w w':=by
 obtain ⟨h1,h2⟩:=of_decide_eq_true hn;unfold av Ar.dct;by_cases h0:n=0
 ·subst h0;rw [if_pos rfl];go_enter Tryz.func57,Tryz.ntmps57
  go_wp2_with fail
  go_ret
  exact ⟨rfl,(bR _ _).alloc (nl _) _⟩
 ·obtain ⟨m,rfl⟩:∃ m:Nat,n=(m:Int)+1:=⟨(n - 1).toNat,by omega⟩
  rw [if_neg h0,show (((m:Int)+1 - 1).toNat)=m by omega];obtain ⟨b,off,rfl,hb,hc⟩:=hd.at (i:=m) (by omega)
  generalize Tr.xa a.dicts m=X at *;have hml:m<a.dicts.length:=by omega
  generalize a.dicts.length=D at *;generalize a.files.length=F at *;have e0:(((m:Int)+1) == 0)=false:=by simp;omega
  have e1:decide ((m:Int)+1=0)=false:=dF h0;have e2:(m:Int)+1 - 1=(m:Int):=by omega
  have hmi:(m:Int)<(D:Int):=by omega
  have hm9:(m:Int)<=8796093022208:=by omega
  have hk:=(bR w.heap.size w).alloc (nl _) (.cells #[.slice (some ⟨b,off,none⟩) D cd,.slice af F cf] 33 (0,0));have hc2:=hk.cell (p:=⟨b,off+m,none⟩) hb;clear hn h1 h2;go_enter Tryz.func57,Tryz.ntmps57
  go_wp2_with fail
  go_ret
  exact ⟨rfl,hk⟩
namespace Ar
theorem ZdJ {xs:List ByteArray} {k i:Nat} (h:lgK xs k=some i):∀ j,lgK xs (k+j)=some i:=by
 intro j
 induction j with
 | zero=>exact h
 | succ j ih=>rw [<-Nat.add_assoc,lgK,ih]
end Ar
theorem ZmG (t:ByteArray) (w:World) :
 Calls Tryz.prog 95 #[.string t] w fun e w'=>e=.returned (.bool (decide ((256:Int)<(t.size:Int))))/\Below w.heap.size w w':=by
 go_enter Tryz.func95,Tryz.ntmps95
 go_wp2_with fail
 go_ret
 exact ⟨rfl,bR _ _⟩
theorem Zko (xs:List ByteArray) (b off cap:Nat) (w:World) (hx:Tr.TxAt w b off xs) (hn2:xs.length<=1000) (hB:∀ i,(Tr.xa xs i).size<=140737488355328) :
 Calls Tryz.prog 65 #[.slice (some ⟨b,off,none⟩) xs.length cap,.func (.func 95) #[] #[]] w fun e w'=>e=.returned (.int .i64 (match Ar.lgK xs xs.length with | none=>-1 | some i=>(i:Int)))/\Below w.heap.size w w':=by
 have HX:Hid (∀ w',Tr.TxAt w' b off xs->∀ i,i<xs.length->w'.cell? ⟨b,off+i,none⟩=some (.string (Tr.xa xs i))):=fun w' h=>h.2
 have HB:Hid (∀ i,(Tr.xa xs i).size<=140737488355328):=hB;clear hB
 obtain ⟨r,hr⟩:∃ r,(match Ar.lgK xs xs.length with | none=>(-1:Int) | some i=>(i:Int))=r:=⟨_,rfl⟩
 rw [hr];have Hr:Hid ((match Ar.lgK xs xs.length with | none=>(-1:Int) | some i=>(i:Int))=r):=hr;clear hr;go_enter Tryz.func65,Tryz.ntmps65
 go_wp2_with fail
 go_loopw [8] (fun i wr=>∃ k:Nat,k<=xs.length/\i=.int .i64 k/\Hid (Ar.lgK xs k=none)/\Tr.TxAt wr b off xs/\Below w.heap.size w wr) (fun i _=>xs.length - (intOf i).toNat)
 case atStart=>exact ⟨0,by omega,rfl,rfl,hx,bR _ _⟩
 case round =>
  clear hx;obtain ⟨k,hk2,rfl,HL,hx,B1⟩:=hrel;by_cases hlt:k<xs.length
  ·have d1:decide ((k:Int)<(xs.length:Int))=true:=by simp;omega
   have d1':decide (k<xs.length)=true:=by simp;omega
   have hki:(k:Int)<(xs.length:Int):=by omega
   have c1:=HX.out wr hx k hlt;have z1:=HB.out k;have c2:=fun w=>ZmG (Tr.xa xs k) w
   by_cases hs:256<(Tr.xa xs k).size
   ·have HN:Hid (Ar.lgK xs (k+1)=some k):=by show _=_;rw [Ar.lgK,HL.out];exact if_pos hs
    have HR:Hid ((k:Int)=r):=by
     have h9:=Ar.ZdJ HN.out (xs.length - (k+1));rw [show k+1+(xs.length - (k+1))=xs.length by omega] at h9;have:=Hr.out;rw [h9] at this;exact this
    have d2:decide ((256:Int)<((Tr.xa xs k).size:Int))=true:=zdT (by omega);rw [d2] at c2;generalize Tr.xa xs k=X at *;clear HN hs d2;go_wp2_with fail
    refine (c2 _).mono ?_;rintro e w2 ⟨rfl,G⟩;have B2:=bch B1 G (nl _);go_wp2_with fail
    go_ret
    exact ⟨congrArg (fun x=>Ending.returned (Value.int .i64 x)) HR.out,B2⟩
   ·have HN:Hid (Ar.lgK xs (k+1)=none):=by show _=_;rw [Ar.lgK,HL.out];exact if_neg hs
    have d2:decide ((256:Int)<((Tr.xa xs k).size:Int))=false:=dF (by omega);rw [d2] at c2;generalize Tr.xa xs k=X at *;clear hs d2;go_wp2_with fail
    refine (c2 _).mono ?_;rintro e w2 ⟨rfl,G⟩;have B2:=bch B1 G (nl _);have hx2:=hx.below G;clear B1 G hx;go_wp2_with fail
    go_roundw
    case rel=>exact ⟨k+1,by omega,by go_num,HN,hx2,B2⟩
    case measure=>simp [intOf];omega
  ·obtain rfl:k=xs.length:=by omega
   have HR:Hid ((-1:Int)=r):=by have:=Hr.out;rw [HL.out] at this;exact this
   have d1:decide ((xs.length:Int)<(xs.length:Int))=false:=by simp
   clear Hr;go_wp2_with fail
   go_ret
   exact ⟨congrArg (fun x=>Ending.returned (Value.int .i64 x)) HR.out,B1⟩
theorem ZkM (ad:Option Addr) (cap:Nat) (w:World) :
 Calls Tryz.prog 65 #[.slice ad 0 cap,.func (.func 95) #[] #[]] w fun e w'=>e=.returned (.int .i64 (-1))/\Below w.heap.size w w':=by
 go_enter Tryz.func65,Tryz.ntmps65
 go_wp2_with fail
 go_loopw [8] (fun i wr=>i=.int .i64 0/\Below w.heap.size w wr) (fun i _=>0)
 case atStart=>exact ⟨rfl,bR _ _⟩
 case round =>
  obtain ⟨rfl,B1⟩:=hrel;go_wp2_with fail
  go_ret
  exact ⟨rfl,B1⟩
theorem Zld (xs:List ByteArray) (ad:Option Addr) (cap:Nat) (w:World) (hx:TxSl w ad xs) (hn2:xs.length<=1000) (hB:∀ i,(Tr.xa xs i).size<=140737488355328) :
 Calls Tryz.prog 65 #[.slice ad xs.length cap,.func (.func 95) #[] #[]] w fun e w'=>e=.returned (.int .i64 (match Ar.lgK xs xs.length with | none=>-1 | some i=>(i:Int)))/\Below w.heap.size w w':=by
 rcases hx with rfl | ⟨b,off,rfl,h2⟩
 ·exact ZkM ad cap w
 ·exact Zko xs b off cap w h2 hn2 hB
theorem ZoK (xs:List ByteArray) (ad:Option Addr) (cap:Nat) (w:World) (hx:TxSl w ad xs) (hn2:xs.length<=1000) (hB:∀ i,(Tr.xa xs i).size<=140737488355328) :
 Calls Tryz.prog 94 #[.slice ad xs.length cap,.func (.func 95) #[] #[]] w fun e w'=>e=.returned (.bool (Ar.lgK xs xs.length).isSome)/\Below w.heap.size w w':=by
 have c1:=Zld xs ad cap w hx hn2 hB
 cases hq:Ar.lgK xs xs.length with
 | none =>
  rw [hq] at c1;simp only at c1;clear hq;go_enter Tryz.func94,Tryz.ntmps94
  go_wp2_with fail
  refine c1.mono ?_;rintro e w1 ⟨rfl,G⟩;go_wp2_with fail
  go_ret
  exact ⟨rfl,G⟩
 | some i =>
  rw [hq] at c1;simp only at c1;clear hq;have h0:(0:Int)<=(i:Int):=by omega
  have d0:decide ((0:Int)<=(i:Int))=true:=zdT h0;go_enter Tryz.func94,Tryz.ntmps94
  go_wp2_with fail
  refine c1.mono ?_;rintro e w1 ⟨rfl,G⟩;go_wp2_with fail
  go_ret
  exact ⟨rfl,G⟩
theorem ZcX (ad af:Option Addr) (cd cf:Nat) (a:Ar.A) (n:Int) (w:World) (hd:TxSl w ad a.dicts) (hl:a.dicts.length<=8796093022208) (hn:Ar.has a.dicts n=true) :
 Calls Tryz.prog 71 #[av ad cd af cf a,.int .i64 n] w fun e w'=>e=.returned (.string (Ar.dct a.dicts n))/\Below w.heap.size w w':=by
 obtain ⟨h1,h2⟩:=of_decide_eq_true hn;unfold av Ar.dct;by_cases h0:n=0
 ·subst h0;rw [if_pos rfl];go_enter Tryz.func71,Tryz.ntmps71
  go_wp2_with fail
  go_ret
  exact ⟨rfl,(bR _ _).alloc (nl _) _⟩
 ·obtain ⟨m,rfl⟩:∃ m:Nat,n=(m:Int)+1:=⟨(n - 1).toNat,by omega⟩
  rw [if_neg h0,show (((m:Int)+1 - 1).toNat)=m by omega];obtain ⟨b,off,rfl,hb,hc⟩:=hd.at (i:=m) (by omega)
  generalize Tr.xa a.dicts m=X at *;have hml:m<a.dicts.length:=by omega
  generalize a.dicts.length=D at *;generalize a.files.length=F at *;have e0:(((m:Int)+1) == 0)=false:=by simp;omega
  have e1:decide ((m:Int)+1=0)=false:=dF h0;have e2:(m:Int)+1 - 1=(m:Int):=by omega
  have hmi:(m:Int)<(D:Int):=by omega
  have hm9:(m:Int)<=8796093022208:=by omega
  have hk:=(bR w.heap.size w).alloc (nl _) (.cells #[.slice (some ⟨b,off,none⟩) D cd,.slice af F cf] 33 (0,0));have hc2:=hk.cell (p:=⟨b,off+m,none⟩) hb;clear hn h1 h2;go_enter Tryz.func71,Tryz.ntmps71
  go_wp2_with fail
  go_ret
  exact ⟨rfl,hk⟩
theorem Zdt (ad af:Option Addr) (cd cf:Nat) (a:Ar.A) (w:World) (hx:TxSl w ad a.dicts) (hs:SaneA a) :
 Calls Tryz.prog 61 #[av ad cd af cf a] w fun e w'=>e=.returned (.bool (Ar.many a))/\Below w.heap.size w w':=by
 have hk:=fun o=>(bR w.heap.size w).alloc (nl _) o
 have hn:=hs.nd;have hf:=hs.nf;have c1:=fun w hx h=>ZoK a.dicts ad cd w hx h hs.ds
 unfold Ar.many av;generalize (Ar.lgK a.dicts a.dicts.length).isSome=r at *;have HX:Hid (∀ o,TxSl (w.alloc o) ad a.dicts):=fun o=>hx.below (hk o)
 clear hx;generalize a.dicts=ds at *;generalize a.files.length=F at *
 obtain ⟨D,hD⟩:∃ D,ds.length=D:=⟨_,rfl⟩
 rw [hD] at c1 hn |-
 have hDi:(D:Int)<=8796093022208:=by omega
 have hFi:(F:Int)<=8796093022208:=by omega
 by_cases h1:4<D
 ·have h1':(4:Int)<(D:Int):=by omega
  have d1:decide ((4:Int)<(D:Int))=true:=zdT h1';rw [decide_eq_true (show 4<D\/12<F from .inl h1),Bool.true_or];go_enter Tryz.func61,Tryz.ntmps61
  go_wp2_with fail
  go_ret
  exact ⟨rfl,hk _⟩
 ·have h1':¬ (4:Int)<(D:Int):=by omega
  have d1:decide ((4:Int)<(D:Int))=false:=dF h1';by_cases h2:12<F
  ·have h2':(12:Int)<(F:Int):=by omega
   have d2:decide ((12:Int)<(F:Int))=true:=zdT h2';rw [decide_eq_true (show 4<D\/12<F from .inr h2),Bool.true_or];go_enter Tryz.func61,Tryz.ntmps61
   go_wp2_with fail
   go_ret
   exact ⟨rfl,hk _⟩
  ·have h2':¬ (12:Int)<(F:Int):=by omega
   have d2:decide ((12:Int)<(F:Int))=false:=dF h2';rw [decide_eq_false (show ¬ (4<D\/12<F) by omega),Bool.false_or];have hb:=hk (.cells #[.slice ad D cd,.slice af F cf] 33 (0,0));have c2:=c1 _ (HX.out (.cells #[.slice ad D cd,.slice af F cf] 33 (0,0))) (by omega);clear c1;go_enter Tryz.func61,Tryz.ntmps61
   go_wp2_with fail
   refine c2.mono ?_;rintro e w1 ⟨rfl,G⟩;go_wp2_with fail
   go_ret
   exact ⟨rfl,bch hb G (nl _)⟩
theorem Zie {d:Nat}:∀ {l:List Tk.T} {s:List UInt8} {p:Bool},(Tk.run d s p l).1=0->s.length<=d+512->(Tk.run d s p l).2.length<=d+512
 | [],_,_,_,h=>h
 | t :: l,s,p,h1,h2=>by
  by_cases he:Tk.err d s p t=0
  ·rw [Tk.Zai he] at h1 |-
   exact Zie h1 (by have h9:=Tk.ZbZ he;have:=h9.1;have:=h9.2.1;have:=h9.2.2.2.2;omega)
  ·rw [Tk.Zaf he] at h1;exact absurd h1 he
theorem Bk.ply_size {dict s:ByteArray} (h:(Bk.ply dict s).2=0):(Bk.ply dict s).1.size<=512:=by
 unfold Bk.ply at h |-
 cases hm:Zz dict s with
 | none=>rw [hm] at h;cases h
 | some l =>
  simp only;unfold Zas;split
  ·show 0<=_;omega
  ·rename_i h9
   have h8:Zl dict l=0:=Decidable.not_not.1 h9;unfold Zl at h8;split at h8
   ·cases h8
   ·have:=Zie h8 (by simp);show (List.toArray _).size<=512;simp;omega
theorem Bk.unp_size {dict b:ByteArray} (h:(Bk.unp dict b).2=0):(Bk.unp dict b).1.size<=512:=by
 have z:(⟨#[]⟩:ByteArray).size<=512:=by decide
 unfold Bk.unp at h |-
 split
 ·exact z
 ·rename_i h1
  rw [if_neg h1] at h;split
  ·exact z
  ·rename_i h2
   rw [if_neg h2] at h;split
   ·rename_i h3
    rw [if_pos h3] at h;unfold Bk.whl at h |-
    split
    ·exact z
    ·rename_i h4;exact Nat.le_of_not_lt h4
   ·rename_i h3
    rw [if_neg h3] at h;split
    ·rename_i h4
     rw [if_pos h4] at h;exact Bk.ply_size h
    ·rename_i h4
     rw [if_neg h4] at h;split
     ·rename_i h5
      rw [if_pos h5] at h;split
      ·rename_i h6
       rw [if_pos h6] at h;exact Bk.ply_size h
      ·exact z
     ·exact z
end Go.Proofs.YtbjbjbpgmojcbacGreat
