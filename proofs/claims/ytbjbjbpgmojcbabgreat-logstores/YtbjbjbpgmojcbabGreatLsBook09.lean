/- A part of the proof: what it leans on. -/
import Derived.Shelf.Small.Strs
import Derived.Shelf.Strings.Search3
import Derived.Shelf.Strings.Shaped
import Derived.Shelf.SlSortCmp.NoneTotal
import Derived.Maps.OwnSet
import Derived.Maps.OwnOps
import Derived.Maps.RangeWalk
import Derived.Sort.OwnSorted
import Derived.Sort.KeysCollected
import Derived.OwnWalk
import Derived.Test.YtbjbjbpgmojcbabGreatLsBook08
set_option maxRecDepth 4000
set_option maxHeartbeats 2000000
namespace Go.Proofs.YtbjbjbpgmojcbabGreat
theorem Zij {d:Nat}:∀ {l:List Tk.T} {s:List UInt8} {p:Bool},(Tk.run d s p l).1=0->s.length<=d+512->(Tk.run d s p l).2.length<=d+512
 | [],_,_,_,h=>h
 | t :: l,s,p,h1,h2=>by
  by_cases he:Tk.err d s p t=0
  ·rw [Tk.Zal he] at h1 |-
   exact Zij h1 (by have h9:=Tk.Zcs he;have:=h9.1;have:=h9.2.1;have:=h9.2.2.2.2;omega)
  ·rw [Tk.Zaf he] at h1;exact absurd h1 he
theorem Bk.ply_size {dict s:ByteArray} (h:(Bk.ply dict s).2=0):(Bk.ply dict s).1.size<=512:=by
 unfold Bk.ply at h |-
 cases hm:ZC dict s with
 | none=>rw [hm] at h;cases h
 | some l =>
  simp only;unfold Zau;split
  ·show 0<=_;omega
  ·rename_i h9
   have h8:Zo dict l=0:=Decidable.not_not.1 h9;unfold Zo at h8;split at h8
   ·cases h8
   ·have:=Zij h8 (by simp);show (List.toArray _).size<=512;simp;omega
theorem Bk.unp_size {dict b:ByteArray} (h:(Bk.unp dict b).2=0):(Bk.unp dict b).1.size<=512:=by
 have z:(⟨#[]⟩:ByteArray).size<=512:=by decide
 unfold Bk.unp at h |-
 split
 ·exact z
 ·rename_i h1
  rw [if_neg h1] at h;split
  ·exact z
  ·rename_i h2
   rw [if_neg h2] at h;split
   ·rename_i h3
    rw [if_pos h3] at h;unfold Bk.whl at h |-
    split
    ·exact z
    ·rename_i h4;exact Nat.le_of_not_lt h4
   ·rename_i h3
    rw [if_neg h3] at h;split
    ·rename_i h4
     rw [if_pos h4] at h;exact Bk.ply_size h
    ·rename_i h4
     rw [if_neg h4] at h;split
     ·rename_i h5
      rw [if_pos h5] at h;split
      ·rename_i h6
       rw [if_pos h6] at h;exact Bk.ply_size h
      ·exact z
     ·exact z
open Go.RowKit
namespace Ar
def ukT (ds:List ByteArray) (f:F):ByteArray:=if okf ds f=true then tx ds f else ⟨#[]⟩
end Ar
theorem Zfg (ad af:Option Addr) (cd cf:Nat) (a:Ar.A) (f:Ar.F) (w:World) (hx:TxSl w ad a.dicts) (hs:SaneA a) (hfb:f.blk.size<=140737488355328) :
 Calls Tryz.prog 98 #[av ad cd af cf a,fv f] w fun e w'=>e=.returned (.tuple #[.string (Ar.ukT a.dicts f),.bool (Ar.okf a.dicts f)])/\Below w.heap.size w w':=by
 have hn:=hs.nd;have c1:=fun w=>Zax ad af cd cf a f.dict w hn
 have HX:Hid (∀ w',Below w.heap.size w w'->TxSl w' ad a.dicts):=fun w' h=>hx.below h
 clear hx
 cases hh:Ar.has a.dicts f.dict with
 | false =>
  have e1:Ar.okf a.dicts f=false:=by unfold Ar.okf;rw [hh];rfl
  have e2:Ar.ukT a.dicts f=⟨#[]⟩:=by unfold Ar.ukT;rw [e1];rfl
  rw [e1,e2];rw [hh] at c1;unfold av at c1 |-
  unfold fv;generalize a.dicts.length=D at *;generalize a.files.length=F at *;clear e1 e2 hh hs;go_enter Tryz.func98,Tryz.ntmps98
  go_wp2_with fail
  refine (c1 _).mono ?_;rintro e w1 ⟨rfl,G⟩;go_wp2_with fail
  go_ret2
  exact ⟨rfl,bch (((bR _ _).alloc (nl _) _).alloc (by simp) _) G (by simp)⟩
 | true =>
  have c2:=fun w hx=>Zcb ad af cd cf a f.dict w hx hn hh
  have c3:=fun w=>ZkF (Ar.dct a.dicts f.dict) f.blk w (hs.dct _) hfb
  rw [hh] at c1;unfold av at c1 c2 |-
  unfold fv;have HO:Hid (Ar.okf a.dicts f=decide ((Ar.up a.dicts f).2=0/\((Ar.up a.dicts f).1.size:Int)=f.size/\Ar.sm (Ar.up a.dicts f).1=f.sum)):=by show _=_;unfold Ar.okf;rw [hh,Bool.true_and]
  have HU:Hid (Ar.up a.dicts f=Bk.unp (Ar.dct a.dicts f.dict) f.blk):=rfl;have HZ:Hid ((Ar.up a.dicts f).2=0->(Ar.up a.dicts f).1.size<=512):=fun h=>Bk.unp_size h
  generalize Ar.dct a.dicts f.dict=X at *;have HT:Hid (Ar.ukT a.dicts f=if Ar.okf a.dicts f=true then (Ar.up a.dicts f).1 else ⟨#[]⟩):=rfl;rw [HT.out,HO.out];rw [HU.out] at HZ |-
  obtain ⟨U,hU⟩:∃ U,Bk.unp X f.blk=U:=⟨_,rfl⟩
  simp only [hU] at c3 HZ |-
  obtain ⟨T,E⟩:=U;simp only at c3 HZ |-
  obtain ⟨r,hr⟩:∃ r,decide (E=0/\(T.size:Int)=f.size/\Ar.sm T=f.sum)=r:=⟨_,rfl⟩
  rw [hr];have HR:Hid (decide (E=0/\(T.size:Int)=f.size/\Ar.sm T=f.sum)=r):=hr
  obtain ⟨t,ht⟩:∃ t,(if r=true then T else ⟨#[]⟩)=t:=⟨_,rfl⟩
  rw [ht];have HT2:Hid ((if r=true then T else ⟨#[]⟩)=t):=ht;clear HO HU HT hU hh hs hr ht;generalize f.name=f0 at *;generalize f.dict=f1 at *;generalize f.size=f2 at *;generalize f.sum=f3 at *;generalize f.blk=f4 at *;generalize a.dicts.length=D at *;generalize a.files.length=F at *;go_enter Tryz.func98,Tryz.ntmps98
  go_wp2_with fail
  refine (c1 _).mono ?_;rintro e w1 ⟨rfl,G⟩;clear c1;have B0:Below w.heap.size w ((w.alloc (.cells #[.slice ad D cd,.slice af F cf] 25 (0,0))).alloc (.cells #[.string f0,.int .i64 f1,.int .i64 f2,.int .i64 f3,.string f4] 46 (0,0))):=((bR _ _).alloc (nl _) _).alloc (by simp) _;have hA:∀ i,w1.cell? ⟨w.heap.size,i,none⟩=(#[.slice ad D cd,.slice af F cf]:Array Value)[i]?:=fun i=>(G.cell (p:=⟨w.heap.size,i,none⟩) (by show w.heap.size<_;simp;omega)).trans ((box2 w _ _ _ _).1 i)
  have hF:∀ i,w1.cell? ⟨w.heap.size+1,i,none⟩=(#[.string f0,.int .i64 f1,.int .i64 f2,.int .i64 f3,.string f4]:Array Value)[i]?:=fun i=>(G.cell (p:=⟨w.heap.size+1,i,none⟩) (by simp)).trans ((box2 w _ _ _ _).2 i)
  have hz:w.heap.size+1<w1.heap.size:=by have:=G.size;simp at this;omega
  have B1:=bch B0 G (nl _);clear G B0;have a0:w1.cell? ⟨w.heap.size,0,none⟩=some (.slice ad D cd):=hA 0;have a1:w1.cell? ⟨w.heap.size,1,none⟩=some (.slice af F cf):=hA 1;have b1:w1.cell? ⟨w.heap.size+1,1,none⟩=some (.int .i64 f1):=hF 1;have b2:w1.cell? ⟨w.heap.size+1,2,none⟩=some (.int .i64 f2):=hF 2;have b3:w1.cell? ⟨w.heap.size+1,3,none⟩=some (.int .i64 f3):=hF 3;have b4:w1.cell? ⟨w.heap.size+1,4,none⟩=some (.string f4):=hF 4;clear hA hF
  have HS:Hid (∀ w',Below w1.heap.size w1 w'->Below w1.heap.size w1 w'/\w'.cell? ⟨w.heap.size,0,none⟩=some (.slice ad D cd)/\w'.cell? ⟨w.heap.size,1,none⟩=some (.slice af F cf)/\w'.cell? ⟨w.heap.size+1,1,none⟩=some (.int .i64 f1)/\w'.cell? ⟨w.heap.size+1,4,none⟩=some (.string f4)):=fun w' h =>
   ⟨h,(h.cell (p:=⟨w.heap.size,0,none⟩) (by show w.heap.size<_;omega)).trans a0,(h.cell (p:=⟨w.heap.size,1,none⟩) (by show w.heap.size<_;omega)).trans a1,(h.cell (p:=⟨w.heap.size+1,1,none⟩) hz).trans b1,(h.cell (p:=⟨w.heap.size+1,4,none⟩) hz).trans b4⟩
  have C2:Hid (∀ w',Below w1.heap.size w1 w'->Calls Tryz.prog 92 #[.agg #[.slice ad D cd,.slice af F cf],.int .i64 f1] w' fun e w2=>e=.returned (.string X)/\Below w'.heap.size w' w2):=fun w' h=>c2 w' (HX.out _ (bch B1 h (nl _)))
  have C3:Hid (∀ w,Calls Tryz.prog 138 #[.string X,.string f4] w fun e w2=>e=.returned (.tuple #[.string T,.int .i64 E])/\Below w.heap.size w w2):=c3;clear c2 c3;go_wp2_with fail
  go_region_held3 (fun w'=>Below w1.heap.size w1 w'/\w'.cell? ⟨w.heap.size,0,none⟩=some (.slice ad D cd)/\w'.cell? ⟨w.heap.size,1,none⟩=some (.slice af F cf)/\w'.cell? ⟨w.heap.size+1,1,none⟩=some (.int .i64 f1)/\w'.cell? ⟨w.heap.size+1,4,none⟩=some (.string f4))
   (first | (exact HS.out _ ((bR _ _).drew)) | (exact HS.out _ (bch (And.left (by assumption)) G5 (nl _))) | (exact HS.out _ (bch (And.left (by assumption)) G4 (nl _))) | (go_keep;done))
   (first
    | (go_at_call 92;refine (C2.out _ ?_).mono ?_;exact And.left (by assumption);rintro e w4 ⟨rfl,G4⟩)
    | (go_at_call 138;refine (C3.out _).mono ?_;rintro e w5 ⟨rfl,G5⟩))
  have B5:Below w1.heap.size w1 w5:=bch (bch ((bR _ _).drew) G4 (nl _)) G5 (nl _);have b2':=(B5.cell (p:=⟨w.heap.size+1,2,none⟩) hz).trans b2;have b3':=(B5.cell (p:=⟨w.heap.size+1,3,none⟩) hz).trans b3;have B6:=bch B1 B5 (nl _)
  have B7:Hid (∀ n,Below w.heap.size w (w5.drewN n)):=fun n=>⟨B6.os,B6.tape,B6.output,B6.size,B6.block⟩
  clear G4 G5 HS C2 C3 a0 a1 b1 b2 b3 b4 B5 B6 B1 HX;by_cases hE:E=0
  ·subst hE;have hT:=HZ.out rfl;have C6:=fun w=>Zmt T w (by omega)
   have hsm:Hid ((ZaF T T.size:Int)=Ar.sm T):=rfl;have hT':(T.size:Int)<=512:=by omega
   by_cases h2:(T.size:Int)=f2
   ·subst h2;by_cases h3:Ar.sm T=f3
    ·subst h3;have hr:Hid (r=true):=by show _=_;rw [<-HR.out];exact zdT ⟨rfl,rfl,rfl⟩
     clear HR;rw [hsm.out] at C6;generalize Ar.sm T=M at *;clear hsm;go_wp2_with fail
     go_quiet ((go_at_call 93;exact Calls.quiet_of_same (C6 _)))
     all_goals
      go_wp2_with fail
      go_ret2
      exact ⟨by rw [<-HT2.out,hr.out];rfl,B7.out _⟩
    ·have hr:Hid (r=false):=by show _=_;rw [<-HR.out];exact dF (fun h=>h3 h.2.2)
     clear HR;rw [hsm.out] at C6;generalize Ar.sm T=M at *;clear hsm;have e1:(M != f3)=true:=by simpa using h3
     have e2:(M == f3)=false:=by simpa using h3
     have e3:decide (M=f3)=false:=dF h3;go_wp2_with fail
     go_quiet ((go_at_call 93;exact Calls.quiet_of_same (C6 _)))
     all_goals
      go_wp2_with fail
      go_ret2
      exact ⟨by rw [<-HT2.out,hr.out];rfl,B7.out _⟩
   ·have hr:Hid (r=false):=by show _=_;rw [<-HR.out];exact dF (fun h=>h2 h.2.1)
    clear HR;have e1:((T.size:Int) != f2)=true:=by simpa using h2
    have e2:((T.size:Int) == f2)=false:=by simpa using h2
    have e3:decide ((T.size:Int)=f2)=false:=dF h2;clear C6 hsm;go_wp2_with fail
    go_quiet (fail)
    all_goals
     go_wp2_with fail
     go_ret2
     exact ⟨by rw [<-HT2.out,hr.out];rfl,B7.out _⟩
  ·have hr:Hid (r=false):=by show _=_;rw [<-HR.out];exact dF (fun h=>hE h.1)
   clear HR;have e1:(E != 0)=true:=by simpa using hE
   have e2:(E == 0)=false:=by simpa using hE
   have e3:decide (E=0)=false:=dF hE;go_wp2_with fail
   go_quiet (fail)
   all_goals
    go_wp2_with fail
    go_ret2
    exact ⟨by rw [<-HT2.out,hr.out];rfl,B7.out _⟩
namespace Ar
theorem ZaJ {fs:List F} {i:Nat} (h:i<fs.length):fa fs i=fs[i]:=by simp [fa,h]
def Srt (fs:List F):Prop:=∀ i j,i<j->j<fs.length->Tr.bl (fa fs i).name (fa fs j).name=true
theorem ZpA {a b:ByteArray} (h:Tr.bl a b=true):Tr.bl b a=false:=by
 cases h2:Tr.bl b a with
 | false=>rfl
 | true=>have:=Tr.ZcN h h2;rw [Tr.ZcJ] at this;cases this
theorem Zfs {a:A}:∀ {k i:Nat},gdK a k=true->i<k->okAt a i=true
 | 0,i,_,h=>by omega
 | k+1,i,h,hi=>by
  rw [gdK,Bool.and_eq_true] at h;by_cases e:i=k
  ·subst e;exact h.2
  ·exact Zfs h.1 (by omega)
theorem Zro {a:A}:∀ {k:Nat},(∀ i,i<k->okAt a i=true)->gdK a k=true
 | 0,_=>rfl
 | k+1,h=>by rw [gdK,Zro (fun i hi=>h i (by omega)),h k (by omega)];rfl
theorem ZbP {a:A} {i:Nat} (h:okAt a i=true):isNm (fa a.files i).name=true/\(i=0\/Tr.bl (fa a.files (i - 1)).name (fa a.files i).name=true)/\okf a.dicts (fa a.files i)=true:=by
 simp only [okAt,Bool.and_eq_true,Bool.or_eq_true,decide_eq_true_iff] at h;exact ⟨h.1.1,h.1.2,h.2⟩
theorem ZqZ {a:A} (h:gdK a a.files.length=true):Srt a.files:=by
 intro i j hij hj
 induction j with
 | zero=>omega
 | succ j ih =>
  have h1:=(ZbP (Zfs h hj)).2.1;rcases h1 with h1 | h1
  ·omega
  ·by_cases e:i=j
   ·subst e;exact h1
   ·exact Tr.ZcN (ih (by omega) (by omega)) h1
theorem ZbL (fs:List F) (name:ByteArray):pos fs name<=fs.length:=(List.takeWhile_prefix _).length_le
theorem Zol {fs:List F} {name:ByteArray} {i:Nat} (h:i<pos fs name):Tr.bl (fa fs i).name name=true:=by
 have hl:=ZbL fs name;have hp:fs.takeWhile (fun f=>Tr.bl f.name name) <+: fs:=List.takeWhile_prefix _;have h1:(fs.takeWhile fun f=>Tr.bl f.name name)[i]'h=fs[i]'(by omega):=List.IsPrefix.getElem hp h;rw [ZaJ (by omega),<-h1];have:=List.all_takeWhile (p:=fun f=>Tr.bl f.name name) (l:=fs);rw [List.all_eq_true] at this;exact this _ (gM h)
theorem Znp {fs:List F} {name:ByteArray} (h:pos fs name<fs.length):Tr.bl (fa fs (pos fs name)).name name=false:=by
 rw [ZaJ h]
 induction fs with
 | nil=>simp at h
 | cons f fs ih =>
  cases hb:Tr.bl f.name name with
  | false =>
   have e:pos (f :: fs) name=0:=by simp [pos,hb]
   simp only [e,List.getElem_cons_zero];exact hb
  | true =>
   have e:pos (f :: fs) name=pos fs name+1:=by simp [pos,hb]
   simp only [e,List.getElem_cons_succ];exact ih (by rw [e] at h;simpa using h)
theorem ZqX {fs:List F} {name:ByteArray} {i:Nat} (hi:i<=fs.length) (h1:∀ k,k<i->Tr.bl (fa fs k).name name=true) (h2:i<fs.length->Tr.bl (fa fs i).name name=false):pos fs name=i:=by
 by_cases e1:pos fs name<i
 ·have:=h1 _ e1;rw [Znp (by omega)] at this;cases this
 ·by_cases e2:i<pos fs name
  ·have:=h2 (by have:=ZbL fs name;omega);rw [Zol e2] at this;cases this
  ·omega
theorem ZY {fs:List F} {name:ByteArray} (h:ZK fs name=true):pos fs name<fs.length/\(fa fs (pos fs name)).name=name:=of_decide_eq_true h
theorem Zkc {fs:List F} (hs:Srt fs) {i:Nat} (hi:i<fs.length):pos fs (fa fs i).name=i :=
 ZqX (by omega) (fun k hk=>hs k i hk hi) (fun _=>Tr.ZcJ _)
theorem Zfl {fs:List F} (hs:Srt fs) {i:Nat} (hi:i<fs.length):ZK fs (fa fs i).name=true:=by
 rw [ZK,Zkc hs hi];exact zdT ⟨hi,rfl⟩
theorem Zng {fs:List F} (hs:Srt fs) {name:ByteArray} (h:ZK fs name=false) {i:Nat} (hi:i<fs.length):(fa fs i).name ≠ name:=by
 rintro rfl;rw [Zfl hs hi] at h;cases h
theorem ZrG {fs:List F} (hs:Srt fs) {name:ByteArray} {i:Nat} (h1:pos fs name<i) (h2:i<fs.length):Tr.bl name (fa fs i).name=true:=by
 have h3:=Znp (fs:=fs) (name:=name) (by omega);have h4:=hs _ i h1 h2
 cases h5:Tr.bl name (fa fs (pos fs name)).name with
 | true=>exact Tr.ZcN h5 h4
 | false=>rw [Tr.ZfX h5 h3];exact h4
def fatK (fs:List F) (name:ByteArray):Nat->Option Nat
 | 0=>none
 | k+1=>match fatK fs name k with
  | some i=>some i
  | none=>if (fa fs k).name=name then some k else none
theorem Zns {fs:List F} {name:ByteArray} {k i:Nat} (h:fatK fs name k=some i):∀ j,fatK fs name (k+j)=some i:=by
 intro j
 induction j with
 | zero=>exact h
 | succ j ih=>rw [<-Nat.add_assoc,fatK,ih]
theorem ZhJ {fs:List F} {name:ByteArray}:∀ {k:Nat},(match fatK fs name k with | none=>∀ j,j<k->(fa fs j).name ≠ name | some i=>i<k/\(fa fs i).name=name)
 | 0=>by intro j h;omega
 | k+1=>by
  have ih:=ZhJ (fs:=fs) (name:=name) (k:=k);rw [fatK]
  cases h:fatK fs name k with
  | some i=>rw [h] at ih;exact ⟨by have:=ih.1;omega,ih.2⟩
  | none =>
   rw [h] at ih;simp only at ih |-
   by_cases hs:(fa fs k).name=name
   ·rw [if_pos hs];exact ⟨by omega,hs⟩
   ·rw [if_neg hs];intro j hj;by_cases e:j=k
    ·subst e;exact hs
    ·exact ih j (by omega)
theorem ZrB {fs:List F} (hs:Srt fs) (name:ByteArray):fatK fs name fs.length=if ZK fs name=true then some (pos fs name) else none:=by
 have h:=ZhJ (fs:=fs) (name:=name) (k:=fs.length)
 cases hf:fatK fs name fs.length with
 | some i =>
  rw [hf] at h;obtain ⟨h1,rfl⟩:=h;rw [if_pos (Zfl hs h1),Zkc hs h1]
 | none =>
  rw [hf] at h
  cases ht:ZK fs name with
  | false=>rfl
  | true =>
   obtain ⟨h1,h2⟩:=ZY ht;exact absurd h2 (h _ h1)
def rpK (fs:List F) (f:F):Nat->List F × Bool
 | 0=>([],false)
 | k+1 =>
  let s:=rpK fs f k
  let t:=if s.2=false/\Tr.bl (fa fs k).name f.name=false then (s.1++[f],true) else s
  if (fa fs k).name=f.name then t else (t.1++[fa fs k],t.2)
def Zfi (fs:List F) (f:F):List F:=if (rpK fs f fs.length).2=true then (rpK fs f fs.length).1 else (rpK fs f fs.length).1++[f]
theorem ZQ {fs:List F} {k:Nat} (h:k<fs.length):fs.take (k+1)=fs.take k++[fa fs k]:=by
 rw [List.take_succ_eq_append_getElem h,ZaJ h]
theorem Zjc {fs:List F} {f:F}:∀ {k:Nat},k<=pos fs f.name->rpK fs f k=(fs.take k,false)
 | 0,_=>by simp [rpK]
 | k+1,h=>by
  have hl:=ZbL fs f.name;have hb:=Zol (fs:=fs) (name:=f.name) (i:=k) (by omega);have hne:(fa fs k).name ≠ f.name:=by intro e;rw [e,Tr.ZcJ] at hb;cases hb
  rw [rpK,Zjc (by omega)];simp only [hb,Bool.true_eq_false,and_false,if_false,if_neg hne];rw [ZQ (by omega)]
def th (fs:List F) (name:ByteArray):Nat:=if ZK fs name=true then 1 else 0
theorem ZjY {fs:List F} (hs:Srt fs) {f:F}:∀ {k:Nat},pos fs f.name<k->k<=fs.length->rpK fs f k=(fs.take (pos fs f.name)++f :: (fs.take k).drop (pos fs f.name+th fs f.name),true)
 | 0,h,_=>by omega
 | k+1,h,hk=>by
  rw [rpK];by_cases e:pos fs f.name=k
  ·rw [Zjc (by omega)];have hb:=Znp (fs:=fs) (name:=f.name) (by omega);rw [e] at hb;simp only [hb,and_self,if_true]
   cases ht:ZK fs f.name with
   | true =>
    have h2:=(ZY ht).2;rw [e] at h2;rw [if_pos h2,th,if_pos ht,e,List.drop_of_length_le (by rw [List.length_take];omega)]
   | false =>
    have hne:(fa fs k).name ≠ f.name:=Zng hs ht (by omega);rw [if_neg hne,th,if_neg (by rw [ht];decide),e,Nat.add_zero,ZQ (by omega),List.drop_append_of_le_length (by rw [List.length_take];omega),List.drop_of_length_le (by rw [List.length_take];omega)];simp
  ·rw [ZjY hs (by omega) (by omega)];have hgt:=ZrG hs (name:=f.name) (i:=k) (by omega) (by omega);have hne:(fa fs k).name ≠ f.name:=by intro e9;rw [e9,Tr.ZcJ] at hgt;cases hgt
   simp only [Bool.true_eq_false,false_and,if_false,if_neg hne];have hth:th fs f.name<=1:=by unfold th;split <;> omega
   rw [ZQ (by omega),List.drop_append_of_le_length (by rw [List.length_take];omega)];simp
theorem ZoY {fs:List F} (hs:Srt fs) (f:F):Zfi fs f=putF fs f:=by
 unfold Zfi putF;by_cases h:pos fs f.name<fs.length
 ·rw [ZjY hs h (Nat.le_refl _)];simp only [if_true,List.take_length];rfl
 ·have h2:pos fs f.name=fs.length:=by have:=ZbL fs f.name;omega
  rw [Zjc (by omega)];have ht:ZK fs f.name=false:=dF (by omega);simp [h2,ht]
def rdK (fs:List F) (name:ByteArray):Nat->List F
 | 0=>[]
 | k+1=>if (fa fs k).name=name then rdK fs name k else rdK fs name k++[fa fs k]
theorem ZoE {fs:List F} {name:ByteArray}:∀ {k:Nat},k<=pos fs name->rdK fs name k=fs.take k
 | 0,_=>by simp [rdK]
 | k+1,h=>by
  have hl:=ZbL fs name;have hb:=Zol (fs:=fs) (name:=name) (i:=k) (by omega);have hne:(fa fs k).name ≠ name:=by intro e;rw [e,Tr.ZcJ] at hb;cases hb
  rw [rdK,ZoE (by omega),if_neg hne,ZQ (by omega)]
theorem Zkj {fs:List F} (hs:Srt fs) {name:ByteArray} (ht:ZK fs name=true):∀ {k:Nat},pos fs name<k->k<=fs.length->rdK fs name k=fs.take (pos fs name)++(fs.take k).drop (pos fs name+1)
 | 0,h,_=>by omega
 | k+1,h,hk=>by
  rw [rdK];by_cases e:pos fs name=k
  ·have h2:=(ZY ht).2;rw [e] at h2;rw [ZoE (by omega),if_pos h2,e,List.drop_of_length_le (by rw [List.length_take];omega)];simp
  ·rw [Zkj hs ht (by omega) (by omega)];have hgt:=ZrG hs (name:=name) (i:=k) (by omega) (by omega);have hne:(fa fs k).name ≠ name:=by intro e9;rw [e9,Tr.ZcJ] at hgt;cases hgt
   rw [if_neg hne,ZQ (by omega),List.drop_append_of_le_length (by rw [List.length_take];omega)];simp
theorem Zvg {fs:List F} (hs:Srt fs) {name:ByteArray} (ht:ZK fs name=true):rdK fs name fs.length=fs.take (pos fs name)++fs.drop (pos fs name+1):=by
 rw [Zkj hs ht (ZY ht).1 (Nat.le_refl _),List.take_length]
end Ar
namespace Cd
theorem ZsM {f g:Nat->Int} {n:Int} {x:Int × (Nat->Int)}:∀ k,(∀ i,i<k->f i=g i)->wI f n x k=wI g n x k:=by
 intro k
 induction k with
 | zero=>intro _;rfl
 | succ k ih=>intro h;rw [wI,wI,ih (fun i hi=>h i (by omega)),h k (by omega)]
theorem ZrW {f g:Nat->Int} (h:∀ i,i<16->f i=g i):∀ n,wO f n=wO g n:=by
 intro n
 induction n with
 | zero=>rfl
 | succ n ih=>rw [wO,wO,ih,ZsM 16 h]
theorem Zpj {f g:Nat->Int} (h:∀ i,i<16->f i=g i):wds f=wds g:=by rw [wds,wds,ZrW h]
theorem Zoy {f g ws:Nat->Int} {n word:Int}:∀ k,(∀ i,i<k->f i=g i)->find f ws n word k=find g ws n word k:=by
 intro k
 induction k with
 | zero=>intro _;rfl
 | succ k ih=>intro h;rw [find,find,ih (fun i hi=>h i (by omega)),h k (by omega)]
theorem Zqu {f g ws:Nat->Int} {b:ByteArray} (h:∀ i,i<16->f i=g i):∀ m n word a,sgn f ws b m n word a=sgn g ws b m n word a:=by
 intro m
 induction m with
 | zero=>intro _ _ _;rfl
 | succ m ih=>intro n word a;rw [sgn,sgn,ih,fnd,fnd,Zoy 16 h]
theorem ZqI {f g:Nat->Int} {b:ByteArray} (h:∀ i,i<16->f i=g i) (a:Nat):s15 f b a=s15 g b a:=by rw [s15,s15,Zpj h,Zqu h]
theorem Zqa {f g:Nat->Int} {b:ByteArray} (h:∀ i,i<16->f i=g i):∀ k,rdK f b k=rdK g b k:=by
 intro k
 induction k with
 | zero=>rfl
 | succ k ih=>rw [rdK,rdK,ih];simp only [ZqI h]
theorem ZtG {f g:Nat->Int}:∀ k,(∀ i,i<k->f i=g i)->sm f k=sm g k:=by
 intro k
 induction k with
 | zero=>intro _;rfl
 | succ k ih=>intro h;rw [sm,sm,ih (fun i hi=>h i (by omega)),h k (by omega)]
theorem Zqo {f g:Nat->Int} (h:∀ i,i<16->f i=g i):chk f=chk g:=by
 have e:InR f 15 16 ↔ InR g 15 16:=⟨fun h9 i hi=>by rw [<-h i hi];exact h9 i hi,fun h9 i hi=>by rw [h i hi];exact h9 i hi⟩
 rw [chk,chk,ZtG 16 h];by_cases h1:InR f 15 16
 ·rw [if_pos h1,if_pos (e.1 h1)]
 ·rw [if_neg h1,if_neg (fun h9=>h1 (e.2 h9))]
theorem ZsK {f g:Nat->Int} {b:ByteArray} {n:Int} (h:∀ i,i<16->f i=g i):rd f b n=rd g b n:=by
 rw [rd,rd,Zqo h,Zqa h]
theorem Zti {f:Nat->Int} {s:ByteArray}:∀ k,(∀ i,i<k->f (at8 s i / 16) ≠ 0/\f (at8 s i % 16) ≠ 0)->∃ bs,wrK f s k=some bs:=by
 intro k
 induction k with
 | zero=>intro _;exact ⟨[],rfl⟩
 | succ k ih =>
  intro h;obtain ⟨bs,e⟩:=ih (fun i hi=>h i (by omega));have h1:=h k (by omega);exact ⟨_,ZfW e (fun h9=>h9.elim h1.1 h1.2)⟩
end Cd
namespace Bk
theorem ZoS (s:ByteArray):∀ k i,hvK s k i<=hvK s (k+1) i:=by
 intro k i;rw [hvK];unfold upd;split
 ·rename_i h
  split
  ·rename_i h2;rw [<-h2,h];omega
  ·rw [h];omega
 ·split
  ·rename_i h2;rw [h2];omega
  ·exact Int.le_refl _
theorem ZrD (s:ByteArray) (k i:Nat):∀ j,hvK s k i<=hvK s (k+j) i:=by
 intro j
 induction j with
 | zero=>exact Int.le_refl _
 | succ j ih=>exact Int.le_trans ih (ZoS s (k+j) i)
theorem Zqc (s:ByteArray) (k:Nat):1<=hvK s (k+1) (Cd.at8 s k / 16)/\1<=hvK s (k+1) (Cd.at8 s k % 16):=by
 have h1:=(Zig s k (Cd.at8 s k / 16)).1;have h2:=(Zig s k (Cd.at8 s k % 16)).1;rw [hvK];unfold upd;refine ⟨?_,?_⟩
 ·split
  ·split <;> omega
  ·rw [if_pos rfl];omega
 ·rw [if_pos rfl];split <;> omega
theorem Zma {s:ByteArray} {k:Nat} (h:k<s.size):1<=hv s (Cd.at8 s k / 16)/\1<=hv s (Cd.at8 s k % 16):=by
 have h1:=Zqc s k;have h2:=ZrD s (k+1) (Cd.at8 s k / 16) (s.size - (k+1));have h3:=ZrD s (k+1) (Cd.at8 s k % 16) (s.size - (k+1));rw [show k+1+(s.size - (k+1))=s.size by omega] at h2 h3;unfold hv;omega
theorem Zqg {s:ByteArray} (h0:s.size ≠ 0) (h:s.size<=1024):(Cd.bld (hv s)).2=0:=by
 unfold Cd.bld;rw [if_neg (fun h9=>h9 (ZoF s h))];have h1:=(Zma (s:=s) (k:=0) (by omega)).1;have h2:=((Cd.ZfI (hv s) 16).1 (Cd.at8 s 0 / 16) (by have:=Cd.ZaC s 0;omega) (by omega)).1;rw [if_neg h2];split <;> rfl
theorem ZpO {s:ByteArray} (h0:s.size ≠ 0) (h:s.size<=1024):(Cd.wrt (Cd.bld (hv s)).1 s).2=0:=by
 obtain ⟨hc,hz,_⟩:=Cd.ZjR (hv s) (Zqg h0 h)
 have hn:∀ i,i<16->¬ (0<hv s i/\(Cd.bld (hv s)).1 i=0):=by
  cases hq:Cd.cst (Cd.bld (hv s)).1 (hv s) 16 with
  | none=>rw [ZnA hc (ZoF s h) hq] at hz;exact absurd hz (by decide)
  | some n=>exact (Cd.ZmF 16 n hq).1
 obtain ⟨bs,e⟩:=Cd.Zti (f:=(Cd.bld (hv s)).1) (s:=s) s.size (fun i hi=>by
  have h1:=Zma hi;have h2:=Cd.ZaC s i
  exact ⟨fun h9=>hn _ (by omega) ⟨by omega,h9⟩,fun h9=>hn _ (by omega) ⟨by omega,h9⟩⟩)
 rw [Cd.wrt,if_neg (fun h9=>h9 hc),if_neg (by omega),e]
theorem ZuV (f:Nat->Int) (h:Cd.InR f 15 16) (j:Nat) (hj:j<8):(Cd.at8 ⟨(jn f).toArray⟩ j:Int)=f (2*j)*16+f (2*j+1):=by
 have h1:=h (2*j) (by omega);have h2:=h (2*j+1) (by omega);unfold Cd.at8 jn jnK;simp only [List.getElem?_map,List.getElem?_range hj,Option.map_some,Option.getD_some];rw [UInt8.toNat_ofNat'];omega
theorem Zvr (f:Nat->Int) (h:Cd.InR f 15 16):∀ i,i<16->pt ⟨(jn f).toArray⟩ i=f i:=by
 intro i hi;have h1:=ZuV f h (i / 2) (by omega);have h2:=h (2*(i / 2)) (by omega);have h3:=h (2*(i / 2)+1) (by omega);unfold pt ptK;rw [if_pos (by omega)];split
 ·rename_i h4
  rw [show 2*(i / 2)=i by omega] at *;omega
 ·rename_i h4
  rw [show 2*(i / 2)+1=i by omega] at *;omega
theorem Znr (a b:ByteArray):(a++b).extract 0 a.size=a:=by
 apply Nm.ZG;simp [ByteArray.data_extract,ByteArray.data_append,Array.toList_extract];rw [List.take_of_length_le (by rw [Cd.Zf];exact nl _)]
theorem Zgv (a b:ByteArray):(a++b).extract a.size (a++b).size=b:=by
 apply Nm.ZG;simp [ByteArray.data_extract,ByteArray.data_append,Array.toList_extract];rw [List.drop_of_length_le (by rw [Cd.Zf];exact nl _),List.take_nil,List.nil_append,List.take_of_length_le (by rw [Cd.Zf];exact nl _)]
theorem ZtE (f:Nat->Int):(⟨(jn f).toArray⟩:ByteArray).size=8:=by
 show (jn _).toArray.size=_;simp [jn,Zdm]
theorem ZsD {s:ByteArray} (h0:s.size ≠ 0) (h:s.size<=1024):dec (enc s)=(s,0):=by
 have hL:=ZmO (ZoF s h);have hw:=ZpO h0 h;unfold enc;generalize (Cd.bld (hv s)).1=L at *;rw [ByteArray.append_assoc];have e8:=ZtE L;have x1:=Znr ⟨(jn L).toArray⟩ ((⟨(Nm.nb s.size).toArray⟩:ByteArray)++(Cd.wrt L s).1);have x2:=Zgv ⟨(jn L).toArray⟩ ((⟨(Nm.nb s.size).toArray⟩:ByteArray)++(Cd.wrt L s).1);have x3:=Zgv ⟨(Nm.nb s.size).toArray⟩ (Cd.wrt L s).1;rw [e8] at x1 x2
 have hf:Nm.Zl ((⟨(Nm.nb s.size).toArray⟩:ByteArray)++(Cd.wrt L s).1).data.toList=some (s.size,(Nm.nb s.size).length):=by
  rw [Nm.appd];exact Nm.ZeD s.size _ (by omega)
 have e9:(⟨(Nm.nb s.size).toArray⟩:ByteArray).size=(Nm.nb s.size).length:=by
  show (Nm.nb s.size).toArray.size=_;simp
 rw [e9] at x3;rw [Zgs (n:=s.size) (k:=(Nm.nb s.size).length) (by rw [ByteArray.size_append,e8];omega) (by rw [x2];exact hf),x1,x2,x3,Cd.ZsK (Zvr L hL),Cd.ZuB hw,if_pos rfl]
theorem ZmQ (xs:List ByteArray):∀ n,(mnK xs n).size<=(xa xs 0).size:=by
 intro n
 induction n with
 | zero=>exact nl _
 | succ n ih =>
  rw [mnK];split <;> omega
theorem Zsu (xs:List ByteArray) (h:xs ≠ []):∀ n,n<=xs.length->mnK xs n ∈ xs:=by
 intro n
 induction n with
 | zero =>
  intro _
  cases xs with
  | nil=>exact absurd rfl h
  | cons x xs=>exact List.mem_cons_self
 | succ n ih =>
  intro hn;rw [mnK];split
  ·have e:xa xs n=xs[n]'(by omega):=by rw [xa,List.getD_eq_getElem?_getD,List.getElem?_eq_getElem (by omega)];rfl
   rw [e];exact gM _
  ·exact ih (by omega)
theorem ZnL (x:UInt8) (b:ByteArray):Cd.at8 ((⟨#[x]⟩:ByteArray)++b) 0=x.toNat:=by
 unfold Cd.at8;rw [Nm.appd];rfl
theorem ZiE (x:UInt8) (b:ByteArray):((⟨#[x]⟩:ByteArray)++b).extract 1 ((⟨#[x]⟩:ByteArray)++b).size=b:=Zgv ⟨#[x]⟩ b
theorem Zu (x:UInt8) (b:ByteArray):((⟨#[x]⟩:ByteArray)++b).size=b.size+1:=by
 rw [ByteArray.size_append];show 1+_=_;omega
theorem Zuk {dict text:ByteArray} (hd:dict.size<=256) (ht:text.size<=512):ply dict (tk dict text)=(text,0):=by
 obtain ⟨h1,h2⟩:=Zbs dict text hd ht;unfold ply;rw [tk,Zfn h1];simp only [h2]
theorem ZiF {dict text:ByteArray} (hd:dict.size<=256) (ht:text.size<=512):(pak dict text).2=0/\unp dict (pak dict text).1=(text,0)/\(pak dict text).1.size<=text.size+1:=by
 have e:pak dict text=(mnK (bks text (tk dict text)) (bks text (tk dict text)).length,0):=if_neg (by omega);rw [e];have hp:=Zuk hd ht;have hz:=Zim hd ht;generalize tk dict text=s at *;have hne:bks text s ≠ []:=by unfold bks;split <;> simp
 have hx:xa (bks text s) 0=(⟨#[0]⟩:ByteArray)++text:=by unfold bks;split <;> rfl
 have hf:=ZmQ (bks text s) (bks text s).length;rw [hx,Zu] at hf;refine ⟨rfl,?_,hf⟩;have hm:=Zsu (bks text s) hne _ (nl _);simp only;generalize mnK (bks text s) (bks text s).length=b at *
 have u0:unp dict ((⟨#[0]⟩:ByteArray)++text)=(text,0):=by
  rw [unp,if_neg (by omega),if_neg (by rw [Zu];omega),ZnL,if_pos (by decide),ZiE,whl,if_neg (by omega)]
 have u1:unp dict ((⟨#[1]⟩:ByteArray)++s)=(text,0):=by
  rw [unp,if_neg (by omega),if_neg (by rw [Zu];omega),ZnL,if_neg (by decide),if_pos (by decide),ZiE,hp]
 have u2:s.size ≠ 0->unp dict ((⟨#[2]⟩:ByteArray)++enc s)=(text,0):=by
  intro h0;rw [unp,if_neg (by omega),if_neg (by rw [Zu];omega),ZnL,if_neg (by decide),if_neg (by decide),if_pos (by decide),ZiE,ZsD h0 hz,if_pos rfl,hp]
 unfold bks at hm;by_cases h0:s.size=0
 ·rw [if_pos h0] at hm;simp only [List.mem_cons,List.not_mem_nil,or_false] at hm;rcases hm with rfl | rfl
  ·exact u0
  ·exact u1
 ·rw [if_neg h0] at hm;simp only [List.mem_cons,List.not_mem_nil,or_false] at hm;rcases hm with rfl | rfl | rfl
  ·exact u0
  ·exact u1
  ·exact u2 h0
end Bk
namespace Ar
def SrtP (fs:List F):Prop:=fs.Pairwise fun f g=>Tr.bl f.name g.name=true
theorem ZmD {fs:List F}:Srt fs ↔ SrtP fs:=by
 unfold Srt SrtP;rw [List.pairwise_iff_getElem];constructor
 ·intro h i j hi hj hij;have:=h i j hij hj
  rwa [ZaJ hi,ZaJ hj] at this
 ·intro h i j hij hj;rw [ZaJ (by omega),ZaJ hj];exact h i j (by omega) hj hij
theorem Zsa {a:A}:gdK a a.files.length=true ↔ (∀ f ∈ a.files,isNm f.name=true/\okf a.dicts f=true)/\SrtP a.files:=by
 constructor
 ·intro h;refine ⟨fun f hf=>?_,ZmD.1 (ZqZ h)⟩;obtain ⟨i,hi,rfl⟩:=List.mem_iff_getElem.1 hf;have:=ZbP (Zfs h hi);rw [ZaJ hi] at this;exact ⟨this.1,this.2.2⟩
 ·rintro ⟨h1,h2⟩;refine Zro fun i hi=>?_
  have h3:=h1 _ (gM hi);simp only [okAt,Bool.and_eq_true,Bool.or_eq_true,decide_eq_true_iff];refine ⟨⟨by rw [ZaJ hi];exact h3.1,?_⟩,by rw [ZaJ hi];exact h3.2⟩;by_cases e:i=0
  ·exact .inl e
  ·exact .inr (ZmD.2 h2 (i - 1) i (by omega) hi)
theorem Zd {a:A}:chk a=0 ↔ many a=false/\gdK a a.files.length=true:=by
 unfold chk
 cases many a <;> cases gdK a a.files.length <;> simp
theorem Zbc {a:A} (h:chk a=0):Srt a.files:=ZqZ (Zd.1 h).2
theorem Zkh {xs:List ByteArray}:∀ {k:Nat},lgK xs k=none ↔ ∀ i,i<k->(Tr.xa xs i).size<=256
 | 0=>by simp [lgK]
 | k+1=>by
  rw [lgK];have ih:=Zkh (xs:=xs) (k:=k)
  cases h:lgK xs k with
  | some i =>
   simp only [reduceCtorEq,false_iff];intro h2;rw [ih.2 (fun i hi=>h2 i (by omega))] at h;cases h
  | none =>
   have h1:=ih.1 h;simp only;by_cases hs:256<(Tr.xa xs k).size
   ·rw [if_pos hs];simp only [reduceCtorEq,false_iff];intro h2;have:=h2 k (by omega);omega
   ·rw [if_neg hs];simp only [true_iff];intro i hi;by_cases e:i=k
    ·subst e;omega
    ·exact h1 i (by omega)
theorem ZtR {xs:List ByteArray}:lgK xs xs.length=none ↔ ∀ d ∈ xs,d.size<=256:=by
 rw [Zkh];constructor
 ·intro h d hd;obtain ⟨i,hi,rfl⟩:=List.mem_iff_getElem.1 hd;have:=h i hi
  rwa [show Tr.xa xs i=xs[i] by simp [Tr.xa,hi]] at this
 ·intro h i hi;rw [show Tr.xa xs i=xs[i] by simp [Tr.xa,hi]];exact h _ (gM hi)
theorem Zw {a:A}:many a=false ↔ a.dicts.length<=4/\a.files.length<=12/\∀ d ∈ a.dicts,d.size<=256:=by
 rw [<-ZtR,many,Bool.or_eq_false_iff,decide_eq_false_iff_not]
 cases h:lgK a.dicts a.dicts.length <;> simp <;> omega
theorem ZaM {a:A} (h:many a=false) (n:Int):(dct a.dicts n).size<=256:=by
 have h3:=(Zw.1 h).2.2;unfold dct;split
 ·show 0<=_;omega
 ·generalize (n - 1).toNat=m;by_cases hi:m<a.dicts.length
  ·rw [show Tr.xa a.dicts m=a.dicts[m] by simp [Tr.xa,hi]];exact h3 _ (gM hi)
  ·rw [show Tr.xa a.dicts m=⟨#[]⟩ by simp [Tr.xa,show a.dicts.length<=m by omega]];show 0<=_;omega
theorem Zsn (fs:List F) (f:F):(putF fs f).length=if ZK fs f.name=true then fs.length else fs.length+1:=by
 unfold putF;have:=ZbL fs f.name;rw [List.length_append,List.length_cons,List.length_take,List.length_drop]
 cases ht:ZK fs f.name with
 | true=>have:=(ZY ht).1;simp;omega
 | false=>simp;omega
theorem Zhx {a:A} {name text:ByteArray} {dict:Int} (h:putE a name text dict=0) :
 chk a=0/\isNm name=true/\has a.dicts dict=true/\text.size<=512/\(ZK a.files name=true\/a.files.length ≠ 12):=by
 unfold putE at h;by_cases h1:chk a=0
 ·rw [if_neg (fun h9=>h9 h1)] at h
  cases h2:isNm name with
  | false=>rw [h2] at h;simp at h
  | true =>
   cases h3:has a.dicts dict with
   | false=>rw [h2,h3] at h;simp at h
   | true =>
    rw [h2,h3] at h;simp only [Bool.true_eq_false,if_false] at h;split at h
    ·cases h
    ·rename_i h4
     refine ⟨h1,by simp,by simp,by omega,?_⟩
     cases h5:ZK a.files name with
     | true=>exact .inl rfl
     | false=>right;intro e;exact h4 (.inr ⟨h5,e⟩)
 ·rw [if_pos h1] at h;exact absurd h h1
theorem ZmW {a:A} {name text:ByteArray} {dict:Int} (h:putE a name text dict=0):putA a name text dict=⟨a.dicts,putF a.files (pk a.dicts name text dict)⟩:=if_pos h
theorem ZpD {a:A} {name:ByteArray} (h:getE a name=0):ZbB a name=⟨a.dicts,a.files.take (pos a.files name)++a.files.drop (pos a.files name+1)⟩:=if_pos h
end Ar
theorem toList_inj {a b:ByteArray} (h:a.toList=b.toList):a=b:=by
 rw [ByteArray.toList_eq,ByteArray.toList_eq] at h
 cases a;cases b
 simpa using h
theorem Zpw (a b:ByteArray):(a.toList == b.toList)=decide (a=b):=by
 by_cases h:a=b
 ·subst h;simp
 ·rw [decide_eq_false h,Bool.eq_false_iff];intro e;exact h (toList_inj (by simpa using e))
theorem Zlv (p t:ByteArray) (w:World) (hp:p.size<=140737488355328) (ht:t.size<=140737488355328) :
 Calls Tryz.prog 110 #[.string p,.string t] w fun e w'=>e=.returned (.bool (Tr.st p t))/\Below w.heap.size w w':=by
 obtain ⟨r,hr⟩:∃ r,Tr.st p t=r:=⟨_,rfl⟩
 rw [hr];have Hr:Hid (Tr.stK p t (t.size+1)=r):=hr;clear hr;go_enter Tryz.func110,Tryz.ntmps110
 go_wp2_with fail
 go_loopw [5] (fun i wr=>∃ k:Nat,k<=t.size+1/\i=.int .i64 k/\Hid (Tr.stK p t k=false)/\Below w.heap.size w wr) (fun i _=>t.size+1 - (intOf i).toNat)
 case atStart=>exact ⟨0,by omega,rfl,rfl,bR _ _⟩
 case round =>
  obtain ⟨k,hk2,rfl,HL,B1⟩:=hrel
  obtain ⟨J,hJ⟩:∃ J,k+p.size=J:=⟨_,rfl⟩
  have m1:(k:Int)+(p.size:Int)=(J:Int):=by omega
  have w1:IntKind.i64.wrap (J:Int)=(J:Int):=IntWalk.i64_in _ ⟨by omega,by omega⟩;by_cases hlt:J<=t.size
  ·have d1:decide ((J:Int)<=(t.size:Int))=true:=by simp;omega
   have hJi:(J:Int)<=(t.size:Int):=by omega
   have hkJ:(k:Int)<=(J:Int):=by omega
   have hkJn:k<=J:=by omega
   have hkt:k<t.size+1:=by omega
   have HS:=Zpw (t.extract k J) p
   obtain ⟨S,hS⟩:∃ S,t.extract k J=S:=⟨_,rfl⟩
   rw [hS] at HS;by_cases he:S=p
   ·have HN:Hid (Tr.stK p t (k+1)=true):=by show _=_;rw [Tr.stK,hJ,hS,decide_eq_true ⟨hlt,he⟩,Bool.or_true]
    have HR:Hid (true=r):=by
     have h9:=Tr.ZqA HN.out (t.size+1 - (k+1));rw [show k+1+(t.size+1 - (k+1))=t.size+1 by omega] at h9;exact h9.symm.trans Hr.out
    rw [decide_eq_true he] at HS;clear HN he hJ Hr HL;go_wp2_with fail
    go_ret
    exact ⟨congrArg (fun x=>Ending.returned (Value.bool x)) HR.out,B1⟩
   ·have HN:Hid (Tr.stK p t (k+1)=false):=by show _=_;rw [Tr.stK,hJ,hS,HL.out,decide_eq_false (fun h9=>he h9.2),Bool.or_false]
    rw [decide_eq_false he] at HS;clear he hJ HL;go_wp2_with fail
    go_roundw
    case rel=>exact ⟨k+1,by omega,by go_num,HN,B1⟩
    case measure=>simp [intOf];omega
  ·have d1:decide ((J:Int)<=(t.size:Int))=false:=by simp;omega
   have hJi:(t.size:Int)<(J:Int):=by omega
   have HR:Hid (false=r):=by
    have h9:=Tr.Zii (p:=p) (t:=t) (k:=k) (by omega) (t.size+1 - k);rw [show k+(t.size+1 - k)=t.size+1 by omega] at h9;exact (HL.out.symm.trans h9.symm).trans Hr.out
   clear Hr HL hJ;go_wp2_with fail
   go_ret
   exact ⟨congrArg (fun x=>Ending.returned (Value.bool x)) HR.out,B1⟩
namespace Tr
theorem ZeS (t p:ByteArray) (hp:0<p.size) (j:Nat):Lib.occAt t.data.toList p.data.toList j=true ↔ j+p.size<=t.size/\t.extract j (j+p.size)=p:=by
 have hl:p.data.toList.length=p.size:=by simp
 have ht:t.data.toList.length=t.size:=by simp
 have he:(t.extract j (j+p.size)).data.toList=(t.data.toList.drop j).take p.size:=by
  rw [ByteArray.data_extract,Array.toList_extract,List.extract_eq_take_drop];congr 1;omega
 rw [Lib.occAt,List.isPrefixOf_iff_prefix,List.prefix_iff_eq_take,hl];constructor
 ·intro h;have h2:=congrArg List.length h;rw [List.length_take,List.length_drop,hl,ht] at h2;refine ⟨by omega,?_⟩;apply Zbq;rw [ByteArray.toList_eq,ByteArray.toList_eq,he];exact h.symm
 ·rintro ⟨_,h⟩;rw [<-he,h]
theorem ZmJ (t p:ByteArray) (hp:0<p.size) (i:Nat) (hi:i+p.size<=t.size) (h:t.extract i (i+p.size)=p):decide (Lib.index t.data.toList p.data.toList=(i:Int))=!stK p t i:=by
 have ht:t.data.toList.length=t.size:=by simp
 have ho:=(ZeS t p hp i).2 ⟨hi,h⟩;rcases Lib.index_spec t.data.toList p.data.toList with ⟨h1,h2⟩ | ⟨k,h1,h2,h3,h4⟩
 ·have:=h2 i (by omega);rw [ho] at this;cases this
 ·cases hs:stK p t i with
  | true =>
   obtain ⟨j,hj,hj2⟩:=ZfV.1 hs
   have hk:k<=j:=by
    apply Nat.le_of_not_lt;intro hlt;have:=h4 j hlt;rw [(ZeS t p hp j).2 hj2] at this;cases this
   rw [h1];exact dF (by omega)
  | false =>
   have hk:¬ k<i:=fun hlt=>by
    have:=ZfV.2 ⟨k,hlt,(ZeS t p hp k).1 h3⟩;rw [hs] at this;cases this
   have hk2:¬ i<k:=fun hlt=>by have:=h4 i hlt;rw [ho] at this;cases this
   rw [h1];exact zdT (by omega)
theorem Zip (t p:ByteArray) (hp:0<p.size):Lib.contains t.data.toList p.data.toList=st p t:=by
 have ht:t.data.toList.length=t.size:=by simp
 unfold Lib.contains;rcases Lib.index_spec t.data.toList p.data.toList with ⟨h1,h2⟩ | ⟨k,h1,h2,h3,h4⟩
 ·rw [h1]
  cases hs:st p t with
  | false=>rfl
  | true =>
   obtain ⟨j,hj,hj2⟩:=Zej.1 hs;have:=h2 j (by omega);rw [(ZeS t p hp j).2 ⟨hj,hj2⟩] at this;cases this
 ·rw [h1,Zej.2 ⟨k,(ZeS t p hp k).1 h3⟩];exact zdT (by omega)
def cn (xs:List ByteArray) (k i:Nat) (q:ByteArray):Nat:=ctK xs q k+(if stK q (xa xs k) i=true then 1 else 0)
theorem ZoO (xs:List ByteArray) (k:Nat) (q:ByteArray):cn xs k 0 q=ctK xs q k:=by simp [cn,stK]
theorem Zrn {xs:List ByteArray} {k i:Nat} {q:ByteArray} (hq:q.size=4) (hi:(xa xs k).size<=i+3):cn xs k i q=ctK xs q (k+1):=by
 rw [cn,ctK,st];by_cases h:i<=(xa xs k).size+1
 ·have:=Zii (p:=q) (t:=xa xs k) (k:=i) (by omega) ((xa xs k).size+1 - i);rw [show i+((xa xs k).size+1 - i)=(xa xs k).size+1 by omega] at this;rw [this]
 ·have:=Zii (p:=q) (t:=xa xs k) (k:=(xa xs k).size+1) (by omega) (i - ((xa xs k).size+1));rw [show (xa xs k).size+1+(i - ((xa xs k).size+1))=i by omega] at this;rw [this]
theorem Zqf {q t:ByteArray} {i:Nat} (hq:q.size=4) (hne:q ≠ pc t i):stK q t (i+1)=stK q t i:=by
 rw [stK,decide_eq_false,Bool.or_false];rintro ⟨_,h⟩;rw [hq] at h;exact hne h.symm
theorem Zfx {xs:List ByteArray} {k i:Nat} {q:ByteArray} (hq:q.size=4) (hne:q ≠ pc (xa xs k) i):cn xs k (i+1) q=cn xs k i q:=by
 rw [cn,cn,Zqf hq hne]
theorem Zrh {xs:List ByteArray} {k i:Nat} (h:stK (pc (xa xs k) i) (xa xs k) i=true) {q:ByteArray} (hq:q.size=4):cn xs k (i+1) q=cn xs k i q:=by
 by_cases hne:q=pc (xa xs k) i
 ·subst hne;rw [cn,cn,h,stK,h,Bool.true_or]
 ·exact Zfx hq hne
theorem ZrE {xs:List ByteArray} {k i:Nat} (hi:i<(xa xs k).size - 3) (h:stK (pc (xa xs k) i) (xa xs k) i=false):cn xs k (i+1) (pc (xa xs k) i)=cn xs k i (pc (xa xs k) i)+1:=by
 have h4:=ZeX hi;have:stK (pc (xa xs k) i) (xa xs k) (i+1)=true:=ZfV.2 ⟨i,by omega,by omega,by rw [h4];rfl⟩;rw [cn,cn,h,this];simp
theorem ZuU (xs:List ByteArray) (k i:Nat) (q:ByteArray):cn xs k i q<=k+1:=by
 have:=Zki xs q k;rw [cn];split <;> omega
end Tr
end Go.Proofs.YtbjbjbpgmojcbabGreat
namespace Go.Proofs
open Go.Shelf
def Tryz.lays106_ren:Go.Shelf.Ren:=⟨fun | 106=>90 | 213=>126 | 265=>154 | n=>n,fun | 9=>9 | 3=>3 | n=>n,fun | n=>n⟩
theorem Tryz.lays106:Go.Proofs.Lays.n106 Tryz.prog Tryz.lays106_ren:={
 mixed:=by kernel_rfl
 f106:=Tryz.func90.trans (congrArg some (by kernel_rfl))
 f213:=Tryz.func126.trans (congrArg some (by kernel_rfl))
 f265:=Tryz.func154.trans (congrArg some (by kernel_rfl))
 t3:=Tryz.underlying3
 a3:=Tryz.isAgg3
 z3:=Tryz.sizeOf3
 v3:=Tryz.zeroValue3
 t9:=Tryz.underlying9
 a9:=Tryz.isAgg9
 z9:=Tryz.sizeOf9
 v9:=Tryz.zeroValue9 }
open Go.RowKit in
theorem Tryz.strings_Compare (a b:ByteArray) (w:World) :
 Calls Tryz.prog 90 #[.string a,.string b] w fun e w'=>e=.returned (.int .i64 (Lib.compareBytes a.data.toList b.data.toList))/\w'=w:=Any.strings_Compare Tryz.lays106 a b w
def Tryz.lays143_ren:Go.Shelf.Ren:=⟨fun | 143=>149 | 219=>173 | 217=>201 | 225=>202 | 224=>203 | 267=>204 | 266=>216 | 314=>217 | n=>n,fun | 9=>9 | 3=>3 | 4=>4 | 5=>5 | 46=>150 | 146=>235 | 51=>217 | n=>n,fun | 1=>0 | n=>n⟩
theorem Tryz.lays143:Go.Proofs.Lays.n143 Tryz.prog Tryz.lays143_ren:={
 mixed:=by kernel_rfl
 f143:=Tryz.func149.trans (congrArg some (by kernel_rfl))
 f217:=Tryz.func201.trans (congrArg some (by kernel_rfl))
 f219:=Tryz.func173.trans (congrArg some (by kernel_rfl))
 f224:=Tryz.func203.trans (congrArg some (by kernel_rfl))
 f225:=Tryz.func202.trans (congrArg some (by kernel_rfl))
 f266:=Tryz.func216.trans (congrArg some (by kernel_rfl))
 f267:=Tryz.func204.trans (congrArg some (by kernel_rfl))
 f314:=Tryz.func217.trans (congrArg some (by kernel_rfl))
 t3:=Tryz.underlying3
 a3:=Tryz.isAgg3
 z3:=Tryz.sizeOf3
 v3:=Tryz.zeroValue3
 t4:=Tryz.underlying4
 a4:=Tryz.isAgg4
 z4:=Tryz.sizeOf4
 v4:=Tryz.zeroValue4
 t5:=Tryz.underlying5
 a5:=Tryz.isAgg5
 z5:=Tryz.sizeOf5
 v5:=Tryz.zeroValue5
 t9:=Tryz.underlying9
 a9:=Tryz.isAgg9
 z9:=Tryz.sizeOf9
 v9:=Tryz.zeroValue9
 t46:=Tryz.underlying150
 a46:=Tryz.isAgg150
 z46:=Tryz.sizeOf150
 v46:=Tryz.zeroValue150
 t51:=Tryz.underlying217
 a51:=Tryz.isAgg217
 z51:=Tryz.sizeOf217
 v51:=Tryz.zeroValue217
 t146:=Tryz.underlying235
 a146:=Tryz.isAgg235
 z146:=Tryz.sizeOf235
 v146:=Tryz.zeroValue235
 g1:=by kernel_rfl }
open Go.RowKit Go.Lib in
theorem Tryz.strings_Index (s sub:ByteArray) (m:Int) (w:World) (hs:s.size<4294967281) (hm:w.cell? ⟨0,0,none⟩=some (.int .i64 m)) :
 Calls Tryz.prog 149 #[.string s,.string sub] w fun e w'=>e=.returned (.int .i64 (Lib.index s.data.toList sub.data.toList))/\w'=w:=Any.strings_Index Tryz.lays143 s sub m w hs hm
def Tryz.lays144_ren:Go.Shelf.Ren:=⟨fun | 144=>107 | 143=>149 | 219=>173 | 217=>201 | 225=>202 | 224=>203 | 267=>204 | 266=>216 | 314=>217 | n=>n,fun | 9=>9 | 4=>4 | 3=>3 | 5=>5 | 46=>150 | 146=>235 | 51=>217 | n=>n,fun | 1=>0 | n=>n⟩
theorem Tryz.lays144:Go.Proofs.Lays.n144 Tryz.prog Tryz.lays144_ren:={
 mixed:=by kernel_rfl
 f143:=Tryz.func149.trans (congrArg some (by kernel_rfl))
 f144:=Tryz.func107.trans (congrArg some (by kernel_rfl))
 f217:=Tryz.func201.trans (congrArg some (by kernel_rfl))
 f219:=Tryz.func173.trans (congrArg some (by kernel_rfl))
 f224:=Tryz.func203.trans (congrArg some (by kernel_rfl))
 f225:=Tryz.func202.trans (congrArg some (by kernel_rfl))
 f266:=Tryz.func216.trans (congrArg some (by kernel_rfl))
 f267:=Tryz.func204.trans (congrArg some (by kernel_rfl))
 f314:=Tryz.func217.trans (congrArg some (by kernel_rfl))
 t3:=Tryz.underlying3
 a3:=Tryz.isAgg3
 z3:=Tryz.sizeOf3
 v3:=Tryz.zeroValue3
 t4:=Tryz.underlying4
 a4:=Tryz.isAgg4
 z4:=Tryz.sizeOf4
 v4:=Tryz.zeroValue4
 t5:=Tryz.underlying5
 a5:=Tryz.isAgg5
 z5:=Tryz.sizeOf5
 v5:=Tryz.zeroValue5
 t9:=Tryz.underlying9
 a9:=Tryz.isAgg9
 z9:=Tryz.sizeOf9
 v9:=Tryz.zeroValue9
 t46:=Tryz.underlying150
 a46:=Tryz.isAgg150
 z46:=Tryz.sizeOf150
 v46:=Tryz.zeroValue150
 t51:=Tryz.underlying217
 a51:=Tryz.isAgg217
 z51:=Tryz.sizeOf217
 v51:=Tryz.zeroValue217
 t146:=Tryz.underlying235
 a146:=Tryz.isAgg235
 z146:=Tryz.sizeOf235
 v146:=Tryz.zeroValue235
 g1:=by kernel_rfl }
open Go.RowKit Go.Lib in
theorem Tryz.strings_Contains (s sub:ByteArray) (m:Int) (w:World) (hs:s.size<4294967281) (hm:w.cell? ⟨0,0,none⟩=some (.int .i64 m)) :
 Calls Tryz.prog 107 #[.string s,.string sub] w fun e w'=>e=.returned (.bool (Lib.contains s.data.toList sub.data.toList))/\w'=w:=Any.strings_Contains Tryz.lays144 s sub m w hs hm
def Tryz.laysM144_ren:Go.Shelf.Ren:=⟨fun | 144=>107 | 143=>149 | 219=>173 | 217=>201 | 225=>202 | 224=>203 | 267=>204 | 266=>216 | 314=>217 | n=>n,fun | 9=>9 | 4=>4 | 3=>3 | 5=>5 | 46=>150 | 146=>235 | 51=>217 | n=>n,fun | 1=>0 | n=>n⟩
theorem Tryz.laysM144:Go.Proofs.LaysM.n144 Tryz.prog Tryz.laysM144_ren:={
 mixed:=by kernel_rfl
 f143:=Tryz.func149.trans (congrArg some (by kernel_rfl))
 f144:=Tryz.func107.trans (congrArg some (by kernel_rfl))
 f217:=Tryz.func201.trans (congrArg some (by kernel_rfl))
 f219:=Tryz.func173.trans (congrArg some (by kernel_rfl))
 f224:=Tryz.func203.trans (congrArg some (by kernel_rfl))
 f225:=Tryz.func202.trans (congrArg some (by kernel_rfl))
 f266:=Tryz.func216.trans (congrArg some (by kernel_rfl))
 f267:=Tryz.func204.trans (congrArg some (by kernel_rfl))
 f314:=Tryz.func217.trans (congrArg some (by kernel_rfl))
 t3:=Tryz.underlying3
 a3:=Tryz.isAgg3
 z3:=Tryz.sizeOf3
 v3:=Tryz.zeroValue3
 t4:=Tryz.underlying4
 a4:=Tryz.isAgg4
 z4:=Tryz.sizeOf4
 v4:=Tryz.zeroValue4
 t5:=Tryz.underlying5
 a5:=Tryz.isAgg5
 z5:=Tryz.sizeOf5
 v5:=Tryz.zeroValue5
 t9:=Tryz.underlying9
 a9:=Tryz.isAgg9
 z9:=Tryz.sizeOf9
 v9:=Tryz.zeroValue9
 t46:=Tryz.underlying150
 a46:=Tryz.isAgg150
 z46:=Tryz.sizeOf150
 v46:=Tryz.zeroValue150
 t51:=Tryz.underlying217
 a51:=Tryz.isAgg217
 z51:=Tryz.sizeOf217
 v51:=Tryz.zeroValue217
 t146:=Tryz.underlying235
 a146:=Tryz.isAgg235
 z146:=Tryz.sizeOf235
 v146:=Tryz.zeroValue235
 g1:=by kernel_rfl
 i3:=by kernel_rfl
 i4:=by kernel_rfl
 i5:=by kernel_rfl
 i9:=by kernel_rfl
 i46:=by kernel_rfl
 i51:=by kernel_rfl
 i146:=by kernel_rfl
 m1:=by kernel_rfl
 s1_3:=fun w h=>Go.Proofs.cell_of_shapedOpen_int (zero:=#[.int .i64 0]) (t:=3) h (of_decide_eq_true (by kernel_rfl)) (by kernel_rfl) rfl (by kernel_rfl) (by kernel_rfl) Tryz.underlying3 }
open Go.RowKit Go.Lib in
theorem Tryz.strings_Contains_shaped (s sub:ByteArray) (w:World) (h:w.ShapedOpen Tryz.prog) (hs:s.size<4294967281) :
 Calls Tryz.prog 107 #[.string s,.string sub] w fun e w'=>e=.returned (.bool (Lib.contains s.data.toList sub.data.toList))/\w'=w:=Any.strings_Contains_shaped Tryz.laysM144 s sub w h hs
def Tryz.laysSlF06_f23_ren:Go.Shelf.Ren:=⟨fun | 6=>147 | 15=>172 | 14=>171 | 28=>199 | 29=>200 | 20=>191 | 21=>192 | 22=>193 | 23=>194 | 24=>195 | 25=>196 | 26=>197 | 27=>198 | 46=>211 | 47=>212 | 48=>213 | 49=>214 | 50=>215 | 57=>218 | n=>n,fun | 22=>22 | 24=>9 | 25=>119 | 3=>3 | 39=>150 | 0=>0 | 53=>217 | 55=>219 | 4=>4 | 46=>211 | 45=>210 | 50=>71 | 5=>5 | 9=>9 | 66=>229 | 70=>233 | 76=>238 | 77=>176 | n=>n,fun | n=>n⟩
theorem Tryz.laysSlF06_f23:Go.Proofs.SlLaysF0.n6 Tryz.prog Tryz.laysSlF06_f23_ren:={
 mixed:=by kernel_rfl
 f6:=⟨Tryz.f147.name,by decide,Tryz.func147.trans (congrArg some (by kernel_rfl))⟩
 f14:=⟨Tryz.f171.name,by decide,Tryz.func171.trans (congrArg some (by kernel_rfl))⟩
 f15:=Tryz.func172.trans (congrArg some (by kernel_rfl))
 f20:=⟨Tryz.f191.name,by decide,Tryz.func191.trans (congrArg some (by kernel_rfl))⟩
 f21:=⟨Tryz.f192.name,by decide,Tryz.func192.trans (congrArg some (by kernel_rfl))⟩
 f22:=⟨Tryz.f193.name,by decide,Tryz.func193.trans (congrArg some (by kernel_rfl))⟩
 f23:=⟨Tryz.f194.name,by decide,Tryz.func194.trans (congrArg some (by kernel_rfl))⟩
 f24:=⟨Tryz.f195.name,by decide,Tryz.func195.trans (congrArg some (by kernel_rfl))⟩
 f25:=⟨Tryz.f196.name,by decide,Tryz.func196.trans (congrArg some (by kernel_rfl))⟩
 f26:=⟨Tryz.f197.name,by decide,Tryz.func197.trans (congrArg some (by kernel_rfl))⟩
 f27:=⟨Tryz.f198.name,by decide,Tryz.func198.trans (congrArg some (by kernel_rfl))⟩
 f28:=Tryz.func199.trans (congrArg some (by kernel_rfl))
 f29:=Tryz.func200.trans (congrArg some (by kernel_rfl))
 f46:=⟨Tryz.f211.name,by decide,Tryz.func211.trans (congrArg some (by kernel_rfl))⟩
 f47:=Tryz.func212.trans (congrArg some (by kernel_rfl))
 f48:=Tryz.func213.trans (congrArg some (by kernel_rfl))
 f49:=⟨Tryz.f214.name,by decide,Tryz.func214.trans (congrArg some (by kernel_rfl))⟩
 f50:=⟨Tryz.f215.name,by decide,Tryz.func215.trans (congrArg some (by kernel_rfl))⟩
 f57:=⟨Tryz.f218.name,by decide,Tryz.func218.trans (congrArg some (by kernel_rfl))⟩
 t0:=Tryz.underlying0
 a0:=Tryz.isAgg0
 z0:=Tryz.sizeOf0
 v0:=Tryz.zeroValue0
 t3:=Tryz.underlying3
 a3:=Tryz.isAgg3
 z3:=Tryz.sizeOf3
 v3:=Tryz.zeroValue3
 t4:=Tryz.underlying4
 a4:=Tryz.isAgg4
 z4:=Tryz.sizeOf4
 v4:=Tryz.zeroValue4
 t5:=Tryz.underlying5
 a5:=Tryz.isAgg5
 z5:=Tryz.sizeOf5
 v5:=Tryz.zeroValue5
 t9:=Tryz.underlying9
 a9:=Tryz.isAgg9
 z9:=Tryz.sizeOf9
 v9:=Tryz.zeroValue9
 t22:=Tryz.underlying22
 a22:=Tryz.isAgg22
 z22:=Tryz.sizeOf22
 v22:=Tryz.zeroValue22
 t25:=Tryz.underlying119
 a25:=Tryz.isAgg119
 z25:=Tryz.sizeOf119
 v25:=Tryz.zeroValue119
 t39:=Tryz.underlying150
 a39:=Tryz.isAgg150
 z39:=Tryz.sizeOf150
 v39:=Tryz.zeroValue150
 t45:=Tryz.underlying210
 a45:=Tryz.isAgg210
 z45:=Tryz.sizeOf210
 v45:=Tryz.zeroValue210
 t46:=Tryz.underlying211
 a46:=Tryz.isAgg211
 z46:=Tryz.sizeOf211
 v46:=Tryz.zeroValue211
 t50:=Tryz.underlying71
 a50:=Tryz.isAgg71
 z50:=Tryz.sizeOf71
 v50:=Tryz.zeroValue71
 t53:=Tryz.underlying217
 a53:=Tryz.isAgg217
 z53:=Tryz.sizeOf217
 v53:=Tryz.zeroValue217
 t55:=Tryz.underlying219
 a55:=Tryz.isAgg219
 z55:=Tryz.sizeOf219
 v55:=Tryz.zeroValue219
 t66:=Tryz.underlying229
 a66:=Tryz.isAgg229
 z66:=Tryz.sizeOf229
 v66:=Tryz.zeroValue229
 t70:=Tryz.underlying233
 a70:=Tryz.isAgg233
 z70:=Tryz.sizeOf233
 v70:=Tryz.zeroValue233
 t76:=Tryz.underlying238
 a76:=Tryz.isAgg238
 z76:=Tryz.sizeOf238
 v76:=Tryz.zeroValue238
 t77:=Tryz.underlying176
 a77:=Tryz.isAgg176
 z77:=Tryz.sizeOf176
 v77:=Tryz.zeroValue176 }
open Go.RowKit Go.Lib Go.Sort in
theorem Tryz.slices_SortFunc_none {α:Type} [Inhabited α] (p:Option Addr) (cap:Nat) (fv:Value) (w:World) :
 Calls Tryz.prog 147 #[.slice p 0 cap,fv] w fun e w'=>e=.returned (.tuple #[])/\w'=w:=AnyF.slices_SortFunc_none Tryz.laysSlF06_f23 p cap fv w
def Tryz.laysSlF6_f23_ren:Go.Shelf.Ren:=⟨fun | 6=>147 | 15=>172 | 14=>171 | 28=>199 | 29=>200 | 20=>191 | 21=>192 | 22=>193 | 23=>194 | 24=>195 | 25=>196 | 26=>197 | 27=>198 | 46=>211 | 47=>212 | 48=>213 | 49=>214 | 50=>215 | 57=>218 | n=>n,fun | 22=>22 | 24=>9 | 25=>119 | 3=>3 | 39=>150 | 0=>0 | 53=>217 | 55=>219 | 4=>4 | 46=>211 | 45=>210 | 50=>71 | 5=>5 | 9=>9 | 66=>229 | 70=>233 | 76=>238 | 77=>176 | n=>n,fun | n=>n⟩
theorem Tryz.laysSlF6_f23:Go.Proofs.SlLaysF.n6 Tryz.prog Tryz.laysSlF6_f23_ren:={
 mixed:=by kernel_rfl
 f6:=⟨Tryz.f147.name,by decide,Tryz.func147.trans (congrArg some (by kernel_rfl))⟩
 f14:=⟨Tryz.f171.name,by decide,Tryz.func171.trans (congrArg some (by kernel_rfl))⟩
 f15:=Tryz.func172.trans (congrArg some (by kernel_rfl))
 f20:=⟨Tryz.f191.name,by decide,Tryz.func191.trans (congrArg some (by kernel_rfl))⟩
 f21:=⟨Tryz.f192.name,by decide,Tryz.func192.trans (congrArg some (by kernel_rfl))⟩
 f22:=⟨Tryz.f193.name,by decide,Tryz.func193.trans (congrArg some (by kernel_rfl))⟩
 f23:=⟨Tryz.f194.name,by decide,Tryz.func194.trans (congrArg some (by kernel_rfl))⟩
 f24:=⟨Tryz.f195.name,by decide,Tryz.func195.trans (congrArg some (by kernel_rfl))⟩
 f25:=⟨Tryz.f196.name,by decide,Tryz.func196.trans (congrArg some (by kernel_rfl))⟩
 f26:=⟨Tryz.f197.name,by decide,Tryz.func197.trans (congrArg some (by kernel_rfl))⟩
 f27:=⟨Tryz.f198.name,by decide,Tryz.func198.trans (congrArg some (by kernel_rfl))⟩
 f28:=Tryz.func199.trans (congrArg some (by kernel_rfl))
 f29:=Tryz.func200.trans (congrArg some (by kernel_rfl))
 f46:=⟨Tryz.f211.name,by decide,Tryz.func211.trans (congrArg some (by kernel_rfl))⟩
 f47:=Tryz.func212.trans (congrArg some (by kernel_rfl))
 f48:=Tryz.func213.trans (congrArg some (by kernel_rfl))
 f49:=⟨Tryz.f214.name,by decide,Tryz.func214.trans (congrArg some (by kernel_rfl))⟩
 f50:=⟨Tryz.f215.name,by decide,Tryz.func215.trans (congrArg some (by kernel_rfl))⟩
 f57:=⟨Tryz.f218.name,by decide,Tryz.func218.trans (congrArg some (by kernel_rfl))⟩
 t0:=Tryz.underlying0
 a0:=Tryz.isAgg0
 z0:=Tryz.sizeOf0
 v0:=Tryz.zeroValue0
 t3:=Tryz.underlying3
 a3:=Tryz.isAgg3
 z3:=Tryz.sizeOf3
 v3:=Tryz.zeroValue3
 t4:=Tryz.underlying4
 a4:=Tryz.isAgg4
 z4:=Tryz.sizeOf4
 v4:=Tryz.zeroValue4
 t5:=Tryz.underlying5
 a5:=Tryz.isAgg5
 z5:=Tryz.sizeOf5
 v5:=Tryz.zeroValue5
 t9:=Tryz.underlying9
 a9:=Tryz.isAgg9
 z9:=Tryz.sizeOf9
 v9:=Tryz.zeroValue9
 t22:=Tryz.underlying22
 a22:=Tryz.isAgg22
 z22:=Tryz.sizeOf22
 v22:=Tryz.zeroValue22
 a24:=Tryz.isAgg9
 z24:=Tryz.sizeOf9
 t25:=Tryz.underlying119
 a25:=Tryz.isAgg119
 z25:=Tryz.sizeOf119
 v25:=Tryz.zeroValue119
 t39:=Tryz.underlying150
 a39:=Tryz.isAgg150
 z39:=Tryz.sizeOf150
 v39:=Tryz.zeroValue150
 t45:=Tryz.underlying210
 a45:=Tryz.isAgg210
 z45:=Tryz.sizeOf210
 v45:=Tryz.zeroValue210
 t46:=Tryz.underlying211
 a46:=Tryz.isAgg211
 z46:=Tryz.sizeOf211
 v46:=Tryz.zeroValue211
 t50:=Tryz.underlying71
 a50:=Tryz.isAgg71
 z50:=Tryz.sizeOf71
 v50:=Tryz.zeroValue71
 t53:=Tryz.underlying217
 a53:=Tryz.isAgg217
 z53:=Tryz.sizeOf217
 v53:=Tryz.zeroValue217
 t55:=Tryz.underlying219
 a55:=Tryz.isAgg219
 z55:=Tryz.sizeOf219
 v55:=Tryz.zeroValue219
 t66:=Tryz.underlying229
 a66:=Tryz.isAgg229
 z66:=Tryz.sizeOf229
 v66:=Tryz.zeroValue229
 t70:=Tryz.underlying233
 a70:=Tryz.isAgg233
 z70:=Tryz.sizeOf233
 v70:=Tryz.zeroValue233
 t76:=Tryz.underlying238
 a76:=Tryz.isAgg238
 z76:=Tryz.sizeOf238
 v76:=Tryz.zeroValue238
 t77:=Tryz.underlying176
 a77:=Tryz.isAgg176
 z77:=Tryz.sizeOf176
 v77:=Tryz.zeroValue176 }
open Go.RowKit Go.Lib Go.Sort in
theorem Tryz.slices_SortFunc_total {α:Type} [Inhabited α] (enc:α->Value) (h1:OneCell enc) (cf:α->α->Int) (hO:SWO (ltOf cf)) (g:Nat) (cb:Array Value) (blk off cap:Nat) (d:Array α) (w:World) (eg:∀ args w,(callFunc g args).run Tryz.prog w=.ok (.enter g args) w) (hcmp:CmpLays1 Tryz.prog g cb enc cf blk off d.size w) (hH:Holds enc w blk off d) (hblk:blk<w.heap.size) (hsz:d.size<4611686018427387904) (hT:∀ x y,(ltOf cf) x y=false->(ltOf cf) y x=false->x=y) :
 Calls Tryz.prog 147 #[.slice (some ⟨blk,off,none⟩) d.size cap,.func (.func g) #[] cb] w fun e w' =>
  e=.returned (.tuple #[])/\∃ n os,w'=sortWorld enc w blk off n (d.toList.mergeSort fun x y=>!(ltOf cf) y x).toArray os:=Any.slices_SortFunc_total Tryz.laysSlF6_f23 enc h1 cf hO g cb blk off cap d w eg hcmp hH hblk hsz hT
end Go.Proofs
namespace Go.Proofs.YtbjbjbpgmojcbabGreat
open Go.RowKit Go.Maps
theorem Zsh {w:World} {b o:Nat} {v:Value} (h:w.cell? ⟨b,o,none⟩=some v):b<w.heap.size:=by
 apply Nat.lt_of_not_le;intro hb;rw [World.cell?,Array.getElem?_eq_none hb] at h
 cases h
def Mx (w:World):Prop:=∃ m,w.cell? ⟨0,0,none⟩=some (.int .i64 m)
theorem Mx.below {w w':World} (h:Mx w) (hb:Below w.heap.size w w'):Mx w':=by
 obtain ⟨m,hm⟩:=h;exact ⟨m,by rw [hb.cell (p:=⟨0,0,none⟩) (Zsh hm)];exact hm⟩
theorem Zmq (t p:ByteArray) (w:World) (h:Mx w) (ht:t.size<=4000000000) :
 Calls Tryz.prog 149 #[.string t,.string p] w fun e w'=>e=.returned (.int .i64 (Lib.index t.data.toList p.data.toList))/\w'=w:=by
 obtain ⟨m,hm⟩:=h;exact Tryz.strings_Index t p m w (by omega) hm
theorem Zhf (t p:ByteArray) (w:World) (h:Mx w) (ht:t.size<=4000000000) (hp:0<p.size) :
 Calls Tryz.prog 107 #[.string t,.string p] w fun e w'=>e=.returned (.bool (Tr.st p t))/\w'=w:=by
 obtain ⟨m,hm⟩:=h;rw [<-Tr.Zip t p hp];exact Tryz.strings_Contains t p m w (by omega) hm
theorem keyS:Keyed Tryz.prog 9:=string_keyed Tryz.underlying9
theorem ZbW (w:World):(zeroValue 3).run Tryz.prog w=.ok (.int .i64 0) w:=by kernel_rfl
namespace Tr
def kl (p:ByteArray):Lit:=.string p.data.toList
theorem Zps {p q:ByteArray} (h:p ≠ q):kl p ≠ kl q:=by
 intro e;apply h;apply Zbq;rw [ByteArray.toList_eq,ByteArray.toList_eq];exact Lit.string.inj e
theorem ZtU (p:ByteArray):WideAt.IsKeyLit (kl p):=trivial
theorem Zpo (x:List UInt8):(⟨x.toArray⟩:ByteArray).size=x.length:=by show x.toArray.size=_;simp
def i64 (n:Int):DataW Unit:=.lit (.int .i64 n)
def CM (w:World) (b n:Nat) (f:ByteArray->Nat):Prop:=∃ D:DataW Unit,w.ownsMap Tryz.prog 9 (plainElem Tryz.prog 3) b n D/\IsMap D ∧
 (∀ q:ByteArray,q.size=4->D.atKey (kl q) (i64 0)=i64 (f q))/\(∀ x:List UInt8,has D (.string x)=true->x.length=4/\1<=f ⟨x.toArray⟩)
theorem CM.made (w:World):CM (w.alloc (.map #[] 0)) w.heap.size 0 (fun _=>0) :=
 ⟨_,World.ownsMap_made _ _ _ _,isMap_empty,fun _ _=>rfl,fun x h=>by simp [has] at h⟩
theorem CM.same {w:World} {b n m:Nat} {f g:ByteArray->Nat} (h:CM w b n f) (hn:n<=m) (hf:∀ q:ByteArray,q.size=4->f q=g q):CM w b m g:=by
 obtain ⟨D,h1,h2,h3,h4⟩:=h;refine ⟨D,h1.mono hn,h2,fun q hq=>by rw [h3 q hq,hf q hq],fun x hx=>?_⟩;obtain ⟨h5,h6⟩:=h4 x hx;exact ⟨h5,by rw [<-hf ⟨x.toArray⟩ ((Zpo x).trans h5)];exact h6⟩
theorem CM.put {w:World} {b n:Nat} {f g:ByteArray->Nat} {D:DataW Unit} {p:ByteArray} (hp:p.size=4) (h2:IsMap D) (h3:∀ q:ByteArray,q.size=4->D.atKey (kl q) (i64 0)=i64 (f q)) (h4:∀ x:List UInt8,has D (.string x)=true->x.length=4/\1<=f ⟨x.toArray⟩)
 (hown:w.ownsMap Tryz.prog 9 (plainElem Tryz.prog 3) b n (D.put (kl p) (i64 (g p:Nat)))) (hg:g p=f p+1) (hgo:∀ q:ByteArray,q.size=4->q ≠ p->g q=f q):CM w b n g:=by
 refine ⟨_,hown,h2.put _ _,fun q hq=>?_,fun x hx=>?_⟩
 ·by_cases e:q=p
  ·subst e;exact atKey_put_same h2 (ZtU q) _ _
  ·rw [atKey_put_other (Zps e),h3 q hq,hgo q hq e]
 ·by_cases e:(⟨x.toArray⟩:ByteArray)=p
  ·subst e;exact ⟨(Zpo x).symm.trans hp,by omega⟩
  ·have hne:=Zps e;have hx2:kl ⟨x.toArray⟩=.string x:=by simp [kl]
   rw [hx2] at hne;rw [has_put_other hne] at hx;obtain ⟨h5,h6⟩:=h4 x hx;exact ⟨h5,by rw [hgo _ ((Zpo x).trans h5) e];exact h6⟩
end Tr
open Go.WideMaps
theorem ZhC (xs:List ByteArray) (b off cap:Nat) (w:World) (hx:Tr.TxAt w b off xs) (hn:xs.length<=12) (hB:∀ i,(Tr.xa xs i).size<=512) (hM:Mx w) :
 Calls Tryz.prog 146 #[.slice (some ⟨b,off,none⟩) xs.length cap] w fun e w'=>e=.returned (.map (some w.heap.size))/\Tr.CM w' w.heap.size 6144 (Tr.ct xs)/\Below w.heap.size w w':=by
 have HX:Hid (∀ w',Tr.TxAt w' b off xs->∀ i,i<xs.length->w'.cell? ⟨b,off+i,none⟩=some (.string (Tr.xa xs i))):=fun w' h=>h.2
 have HB:Hid (∀ i,(Tr.xa xs i).size<=512):=hB;clear hB;have hn':(xs.length:Int)<=12:=by omega
 have hmm:=@run_makeMap Tryz.prog
 have HX0:Hid (∀ w',Below w.heap.size w w'->Tr.TxAt w' b off xs/\Mx w'):=fun w' h=>⟨hx.below h,hM.below h⟩
 go_enter Tryz.func146,Tryz.ntmps146
 go_wp2_with fail
 go_loopw [11] (fun i wr=>∃ k:Nat,k<=xs.length/\i=.int .i64 k/\Tr.CM wr w.heap.size (512*k) (fun q=>Tr.ctK xs q k)/\Tr.TxAt wr b off xs/\Mx wr/\Below w.heap.size w wr) (fun i _=>xs.length - (intOf i).toNat)
 case atStart=>exact ⟨0,by omega,rfl,Tr.CM.made _,hx.below ((bR _ _).alloc (nl _) _),hM.below ((bR _ _).alloc (nl _) _),(bR _ _).alloc (nl _) _⟩
 case round =>
  clear hx hM hmm;obtain ⟨k,hk2,rfl,hC,hx,hM,B1⟩:=hrel;by_cases hlt:k<xs.length
  ·have d1:decide ((k:Int)<(xs.length:Int))=true:=by simp;omega
   have d1':decide (k<xs.length)=true:=by simp;omega
   have hki:(k:Int)<(xs.length:Int):=by omega
   have c1:=HX.out wr hx k hlt;have hXs:=HB.out k
   obtain ⟨X,hX⟩:∃ X,Tr.xa xs k=X:=⟨_,rfl⟩
   rw [hX] at c1 hXs;have HXk:Hid (Tr.xa xs k=X):=hX;clear hX;go_wp2_with fail
   go_loopw [19] (fun i wr2=>∃ j:Nat,j<=X.size - 3/\i=.int .i64 j/\Tr.CM wr2 w.heap.size (512*k+j) (Tr.cn xs k j)/\Tr.TxAt wr2 b off xs/\Mx wr2/\Below w.heap.size w wr2) (fun i _=>X.size - 3 - (intOf i).toNat)
   case atStart=>exact ⟨0,by omega,rfl,hC.same (by omega) (fun q _=>(Tr.ZoO xs k q).symm),hx,hM,B1⟩
   case round =>
    clear c1 hC hx hM B1;obtain ⟨j,hj2,rfl,hC,hx,hM,B1⟩:=hrel;by_cases hjl:j<X.size - 3
    ·have e1:decide ((j:Int)<(X.size:Int) - 4+1)=true:=zdT (by omega);have hji:(j:Int)+4<=(X.size:Int):=by omega
     have hjn:j+4<=X.size:=by omega
     have hj5:(j:Int)<=512:=by omega
     obtain ⟨P,hP⟩:∃ P,X.extract j (j+4)=P:=⟨_,rfl⟩
     have HP:Hid (Tr.pc X j=P):=hP;have hP4:Hid (P.size=4):=by show _=_;rw [<-HP.out];exact Tr.ZeX hjl
     have HI:Hid (decide (Lib.index X.data.toList P.data.toList=(j:Int))=!Tr.stK P X j):=Tr.ZmJ X P (by rw [hP4.out];omega) j (by rw [hP4.out];omega) (by rw [hP4.out];exact HP.out);have c2:=Zmq X P _ hM (by omega);generalize Lib.index X.data.toList P.data.toList=r at *
     cases hs:Tr.stK P X j with
     | true =>
      have HN:Hid (∀ q:ByteArray,q.size=4->Tr.cn xs k j q=Tr.cn xs k (j+1) q):=fun q hq=>(Tr.Zrh (by rw [HXk.out,HP.out];exact hs) hq).symm
      have hr:¬ r=(j:Int):=of_decide_eq_false (by rw [HI.out,hs];rfl);have e2:decide (r=(j:Int))=false:=dF hr;have e3:(r == (j:Int))=false:=by simpa using hr
      clear hr hs HI;go_wp2_with fail
      refine c2.mono ?_;rintro e w2 ⟨rfl,rfl⟩;go_wp2_with fail
      go_roundw
      case rel=>exact ⟨j+1,by omega,by go_num,hC.same (by omega) HN.out,hx,hM,B1⟩
      case measure=>simp [intOf];omega
     | false =>
      have HN:Hid (Tr.cn xs k (j+1) P=Tr.cn xs k j P+1):=by
       have:=Tr.ZrE (xs:=xs) (k:=k) (i:=j) (by rw [HXk.out];exact hjl) (by rw [HXk.out,HP.out];exact hs);rw [HXk.out,HP.out] at this;exact this
      have HO:Hid (∀ q:ByteArray,q.size=4->q ≠ P->Tr.cn xs k (j+1) q=Tr.cn xs k j q):=fun q hq hne=>Tr.Zfx hq (by rw [HXk.out,HP.out];exact hne)
      have hr:r=(j:Int):=of_decide_eq_true (by rw [HI.out,hs];rfl);subst hr;obtain ⟨D,hown,hD2,hD3,hD4⟩:=hC;have hkey:keyOf Tryz.prog 9 (.string P)=some (Tr.kl P):=keyOf_string_mk U9 (by rw [hP4.out];decide);have hcn:=Tr.ZuU xs k j P;clear hs HI;go_wp2_with fail
      refine c2.mono ?_;rintro e w2 ⟨rfl,rfl⟩
      obtain ⟨C,hC⟩:∃ C:Nat,Tr.cn xs k j P=C:=⟨_,rfl⟩
      have HC:Hid (Tr.cn xs k j P=C):=hC;rw [hC] at hcn;clear hC;have hci:(C:Int)<=13:=by omega
      have wf1:(Lit.int .i64 ((C:Int)+1)).wf=true:=WalkArith.wf_i64 (by omega)
      have hat0:∀ c:Int,D.atKey (Tr.kl P) (.lit (.int .i64 0))=.lit (.int .i64 c)->c=(C:Int):=by
       intro c h9;have h8:=h9.symm.trans (hD3 P hP4.out);rw [HC.out] at h8;simpa [Tr.i64] using h8
      go_wp2_with (first
       | (at_lookup;refine wpList_lookup_own_int _ rfl _ _ 140 rfl 9 3 .i64 keyS U140 zU3 (ZbW _) w.heap.size (512*k+j) _ rfl hown _ _ rfl hkey ?_;intro c hat hwc;obtain rfl:=hat0 c hat;clear hat hwc)
       | (at_mapUpdate;refine wpList_mapUpdate_own _ rfl _ _ _ 140 rfl 9 3 keyS U140 _ w.heap.size (512*k+j) _ rfl hown (by unfold maxLen;omega) _ _ _ rfl rfl hkey _ [] (plainElem_int zU3 wf1) ?_;intro w1 hown1 hgrow1)
       | fail)
      have hC2:Tr.CM w1 w.heap.size (512*k+(j+1)) (Tr.cn xs k (j+1)):=Tr.CM.put hP4.out hD2 hD3 hD4 (by rw [HN.out,HC.out];exact hown1) HN.out HO.out;have B2:=B1.grown hgrow1 B1.size (fun j hj=>by cases hj;exact nl _);clear hown hown1 hgrow1 B1 hx hM;go_roundw
      case rel=>exact ⟨j+1,by omega,by go_num,hC2,(HX0.out _ B2).1,(HX0.out _ B2).2,B2⟩
      case measure=>simp [intOf];omega
    ·have e1:decide ((j:Int)<(X.size:Int) - 4+1)=false:=dF (by omega);have hC2:Tr.CM wr w.heap.size (512*(k+1)) (fun q=>Tr.ctK xs q (k+1)):=hC.same (by omega) (fun q hq=>Tr.Zrn hq (by rw [HXk.out];omega));clear hC;go_wp2_with fail
     go_roundw
     case rel=>exact ⟨k+1,by omega,by go_num,hC2,hx,hM,B1⟩
     case measure=>simp [intOf];omega
  ·obtain rfl:k=xs.length:=by omega
   have d1:decide ((xs.length:Int)<(xs.length:Int))=false:=by simp
   go_wp2_with fail
   go_ret
   exact ⟨rfl,hC.same (by omega) (fun _ _=>rfl),B1⟩
theorem Zjb (ad:Option Addr) (cap:Nat) (w:World) :
 Calls Tryz.prog 146 #[.slice ad 0 cap] w fun e w'=>e=.returned (.map (some w.heap.size))/\Tr.CM w' w.heap.size 6144 (Tr.ct [])/\Below w.heap.size w w':=by
 have hmm:=@run_makeMap Tryz.prog;go_enter Tryz.func146,Tryz.ntmps146
 go_wp2_with fail
 go_loopw [11] (fun i wr=>i=.int .i64 0/\Tr.CM wr w.heap.size 0 (Tr.ct [])/\Below w.heap.size w wr) (fun i _=>0)
 case atStart=>exact ⟨rfl,Tr.CM.made _,(bR _ _).alloc (nl _) _⟩
 case round =>
  obtain ⟨rfl,hC,B1⟩:=hrel;go_wp2_with fail
  go_ret
  exact ⟨rfl,hC.same (by omega) (fun _ _=>rfl),B1⟩
theorem Zin (xs:List ByteArray) (ad:Option Addr) (cap:Nat) (w:World) (hx:TxSl w ad xs) (hn:xs.length<=12) (hB:∀ i,(Tr.xa xs i).size<=512) (hM:Mx w) :
 Calls Tryz.prog 146 #[.slice ad xs.length cap] w fun e w'=>e=.returned (.map (some w.heap.size))/\Tr.CM w' w.heap.size 6144 (Tr.ct xs)/\Below w.heap.size w w':=by
 rcases hx with rfl | ⟨b,off,rfl,h2⟩
 ·exact Zjb ad cap w
 ·exact ZhC xs b off cap w h2 hn hB hM
namespace Tr
def cmpf (xs:List ByteArray) (a b:ByteArray):Int:=if ct xs a=ct xs b then Lib.compareBytes a.data.toList b.data.toList else (ct xs b:Int) - (ct xs a:Int)
theorem Zsg (xs:List ByteArray) (a b:ByteArray):decide (cmpf xs a b<0)=lt xs a b:=by
 unfold cmpf lt;by_cases h:ct xs a=ct xs b
 ·rw [if_pos h,ZmE];simp [h]
 ·rw [if_neg h];by_cases h2:ct xs b<ct xs a
  ·simp [h2];omega
  ·rw [decide_eq_false h2,Bool.false_or,show (ct xs a == ct xs b)=false from by simpa using h,Bool.false_and];exact dF (by omega)
theorem CM.at_is {xs:List ByteArray} {D:DataW Unit} (h3:∀ q:ByteArray,q.size=4->D.atKey (kl q) (i64 0)=i64 (ct xs q)) (p:ByteArray) (hp:p.size=4) (c:Int) (h9:D.atKey (kl p) (.lit (.int .i64 0))=.lit (.int .i64 c)):c=(ct xs p:Int):=by
 have h8:=h9.symm.trans (h3 p hp);simpa [i64] using h8
end Tr
theorem Ziu (xs:List ByteArray) (hn:xs.length<=12) (a b:ByteArray) (ha:a.size=4) (hb:b.size=4) (bx mb:Nat) (w:World) (hc:w.cell? ⟨bx,0,none⟩=some (.map (some mb))) (hC:Tr.CM w mb 6144 (Tr.ct xs)) :
 Calls Tryz.prog 148 #[.string a,.string b,.pointer (some ⟨bx,0,none⟩)] w fun e w'=>e=.returned (.int .i64 (Tr.cmpf xs a b))/\w'=w:=by
 obtain ⟨D,hown,hD2,hD3,hD4⟩:=hC;have hka:keyOf Tryz.prog 9 (.string a)=some (Tr.kl a):=keyOf_string_mk U9 (by rw [ha];decide);have hkb:keyOf Tryz.prog 9 (.string b)=some (Tr.kl b):=keyOf_string_mk U9 (by rw [hb];decide);have hata:=Tr.CM.at_is hD3 a ha;have hatb:=Tr.CM.at_is hD3 b hb;have l1:=Tr.Zki xs a xs.length;have l2:=Tr.Zki xs b xs.length;have c9:=Tryz.strings_Compare a b w;unfold Tr.cmpf
 change Tr.ct xs a<=_ at l1
 change Tr.ct xs b<=_ at l2
 generalize Tr.ct xs a=A at *;generalize Tr.ct xs b=B at *;have hA:(A:Int)<=12:=by omega
 have hB:(B:Int)<=12:=by omega
 clear hD2 hD3 hD4 ha hb;by_cases h:A=B
 ·subst h;rw [if_pos rfl];generalize Lib.compareBytes a.data.toList b.data.toList=r at *;go_enter Tryz.func148,Tryz.ntmps148
  go_wp2_with (first
   | (at_lookup;refine wpList_lookup_own_int _ rfl _ _ 140 rfl 9 3 .i64 keyS U140 zU3 (ZbW _) mb 6144 _ rfl hown _ _ rfl hka ?_;intro c hat hwc;obtain rfl:=hata c hat;clear hat hwc)
   | (at_lookup;refine wpList_lookup_own_int _ rfl _ _ 140 rfl 9 3 .i64 keyS U140 zU3 (ZbW _) mb 6144 _ rfl hown _ _ rfl hkb ?_;intro c hat hwc;obtain rfl:=hatb c hat;clear hat hwc)
   | fail)
  refine c9.mono ?_;rintro e w2 ⟨rfl,rfl⟩;go_wp2_with fail
  go_ret
  exact ⟨rfl,rfl⟩
 ·rw [if_neg h];have h':¬ (A:Int)=(B:Int):=by omega
  have d1:decide ((A:Int)=(B:Int))=false:=dF h';have d2:((A:Int) == (B:Int))=false:=by simpa using h'
  have d3:((A:Int) != (B:Int))=true:=by simpa using h'
  go_enter Tryz.func148,Tryz.ntmps148
  go_wp2_with (first
   | (at_lookup;refine wpList_lookup_own_int _ rfl _ _ 140 rfl 9 3 .i64 keyS U140 zU3 (ZbW _) mb 6144 _ rfl hown _ _ rfl hka ?_;intro c hat hwc;obtain rfl:=hata c hat;clear hat hwc)
   | (at_lookup;refine wpList_lookup_own_int _ rfl _ _ 140 rfl 9 3 .i64 keyS U140 zU3 (ZbW _) mb 6144 _ rfl hown _ _ rfl hkb ?_;intro c hat hwc;obtain rfl:=hatb c hat;clear hat hwc)
   | fail)
  go_ret
  exact ⟨rfl,rfl⟩
open Go.Sort Go.Shelf
namespace Tr
def Got (xs:List ByteArray) (D:DataW Unit) (left:Lit->Bool) (ss:List ByteArray):Prop:=ss.Nodup/\∀ q,q ∈ ss ↔ (has D (kl q)=true/\left (kl q)=false/\2<=ct xs q)
theorem Got.start (xs:List ByteArray) (D:DataW Unit):Got xs D (has D) []:=⟨List.nodup_nil,fun q=>by cases has D (kl q) <;> simp⟩
theorem ZtJ (p:ByteArray):(kl p).sameKey (kl p)=true:=by simp [kl,Lit.sameKey]
theorem Got.yes {xs:List ByteArray} {D:DataW Unit} {left:Lit->Bool} {ss:List ByteArray} (h:Got xs D left ss) {x:ByteArray} (hl:left (kl x)=true) (hh:has D (kl x)=true) (h2:2<=ct xs x):Got xs D (fun z=>left z && !z.sameKey (kl x)) (ss++[x]):=by
 refine ⟨?_,fun q=>?_⟩
 ·rw [List.nodup_append];refine ⟨h.1,by simp,fun a ha b hb=>?_⟩;rw [List.mem_singleton] at hb;rintro rfl;subst hb;have:=((h.2 a).1 ha).2.1;rw [hl] at this;cases this
 ·rw [List.mem_append,List.mem_singleton,h.2 q];by_cases e:q=x
  ·subst e;simp [hh,h2,ZtJ]
  ·simp [sameKey_ne (Zps e),e]
theorem Got.no {xs:List ByteArray} {D:DataW Unit} {left:Lit->Bool} {ss:List ByteArray} (h:Got xs D left ss) {x:ByteArray} (h2:ct xs x<2):Got xs D (fun z=>left z && !z.sameKey (kl x)) ss:=by
 refine ⟨h.1,fun q=>?_⟩;rw [h.2 q];by_cases e:q=x
 ·subst e;constructor
  ·rintro ⟨_,_,h3⟩;omega
  ·rintro ⟨_,_,h3⟩;omega
 ·simp [sameKey_ne (Zps e)]
theorem Got.all {xs:List ByteArray} {D:DataW Unit} {left:Lit->Bool} {ss:List ByteArray} (h:Got xs D left ss) (hl:∀ k,left k=false) (h3:∀ q:ByteArray,q.size=4->D.atKey (kl q) (i64 0)=i64 (ct xs q)) (h4:∀ x:List UInt8,has D (.string x)=true->x.length=4/\1<=ct xs ⟨x.toArray⟩) :
 ∀ q,q ∈ ss ↔ (q.size=4/\2<=ct xs q):=by
 intro q;rw [h.2 q];constructor
 ·rintro ⟨h5,_,h6⟩;have:=(h4 q.data.toList h5).1;exact ⟨by rw [<-this];simp,h6⟩
 ·rintro ⟨h5,h6⟩;refine ⟨?_,hl _,h6⟩
  cases hh:has D (kl q) with
  | true=>rfl
  | false =>
   have h7:=h3 q h5;rw [atKey_of_not_has hh] at h7;simp [i64] at h7;omega
structure Pc where
 val:ByteArray
 four:val.size=4
instance:Inhabited Pc:=⟨⟨⟨#[0,0,0,0]⟩,rfl⟩⟩
theorem Pc.same:∀ {a b:Pc},a.val=b.val->a=b
 | ⟨_,_⟩,⟨_,_⟩,rfl=>rfl
def enc (p:Pc):Value:=.string p.val
def cfp (xs:List ByteArray) (a b:Pc):Int:=cmpf xs a.val b.val
theorem Zcg (xs:List ByteArray) (a b:Pc):ltOf (cfp xs) a b=lt xs a.val b.val:=Zsg xs a.val b.val
theorem swo (xs:List ByteArray):SWO (ltOf (cfp xs)) where
 irrefl x:=by rw [Zcg,Zrp]
 trans x y z h1 h2:=by rw [Zcg] at *;exact lt_trans h1 h2
 ntrans x y z h1 h2:=by rw [Zcg] at *;exact Zhg h1 h2
theorem parts (xs:List ByteArray) (x y:Pc) (h1:ltOf (cfp xs) x y=false) (h2:ltOf (cfp xs) y x=false):x=y:=by
 rw [Zcg] at *;exact Pc.same (Zec h1 h2)
theorem Zde {w:World} {g n:Nat} {os:Array Obj} (d:Array Pc):w.grownBy (sortWorld enc w g 0 n d os) (some g):=by
 unfold sortWorld;refine ⟨rfl,rfl,rfl,by simp,fun k hk hne=>?_⟩;rw [heap_grow_old _ _ (by simpa using hk)];have:g ≠ k:=fun e=>hne (by rw [e])
 simp [putRow,mapBlock,Sort.ahead,Array.getElem?_modify,this]
theorem CM.kept {w w':World} {b n:Nat} {f:ByteArray->Nat} {row:Option Nat} (h:CM w b n f) (hg:w.grownBy w' row) (hne:some b ≠ row):CM w' b n f:=by
 obtain ⟨D,h1,h2⟩:=h;exact ⟨D,h1.kept hg hne,h2⟩
theorem ZnZ {xs ss:List ByteArray} (h:ss.Nodup) (h4:∀ q,q ∈ ss ↔ (q.size=4/\2<=ct xs q)) (ps:List Pc) (hps:ps.map Pc.val=ss) :
 Rk xs ((ps.mergeSort fun x y=>!ltOf (cfp xs) y x).map Pc.val):=by
 have hperm:=List.mergeSort_perm ps (fun x y=>!ltOf (cfp xs) y x);refine ⟨?_,fun p=>?_⟩
 ·have hs:(ps.mergeSort fun x y=>!ltOf (cfp xs) y x).Pairwise (fun x y=>(!ltOf (cfp xs) y x)=true):=by
   refine List.pairwise_mergeSort ?_ ?_ ps
   ·intro a b c h1 h2;simp only [Bool.not_eq_true',Zcg] at *;exact Zhg h2 h1
   ·intro a b;simp only [Bool.or_eq_true,Bool.not_eq_true',Zcg]
    cases h9:lt xs b.val a.val with
    | false=>exact .inl rfl
    | true=>exact .inr (ZjS h9)
  have hnd:(ps.mergeSort fun x y=>!ltOf (cfp xs) y x).Nodup:=by
   rw [hperm.nodup_iff];subst hps;exact (List.pairwise_map.1 h).imp fun hne e=>hne (congrArg _ e)
  refine List.pairwise_map.2 ?_;refine (hs.and hnd).imp ?_;rintro a b ⟨h1,h2⟩;simp only [Bool.not_eq_true',Zcg] at h1
  cases h9:lt xs a.val b.val with
  | true=>rfl
  | false=>exact absurd (Pc.same (Zec h9 h1)) h2
 ·rw [<-h4 p,<-hps,List.mem_map,List.mem_map];constructor
  ·rintro ⟨a,h1,h2⟩;exact ⟨a,hperm.mem_iff.1 h1,h2⟩
  ·rintro ⟨a,h1,h2⟩;exact ⟨a,hperm.mem_iff.2 h1,h2⟩
theorem lift:∀ ss:List ByteArray,(∀ q ∈ ss,q.size=4)->∃ ps:List Pc,ps.map Pc.val=ss
 | [],_=>⟨[],rfl⟩
 | a :: ss,h=>by
  obtain ⟨ps,hp⟩:=lift ss (fun q hq=>h q (List.mem_cons_of_mem _ hq));exact ⟨⟨a,h a (List.mem_cons_self ..)⟩ :: ps,by rw [List.map_cons,hp]⟩
def TxFar (lo:Nat) (w:World) (ad:Option Addr) (xs:List ByteArray):Prop:=xs=[]\/∃ b off,ad=some ⟨b,off,none⟩/\lo<=b/\TxAt w b off xs
theorem ZpQ {w:World} {g:Nat} {cur:Array Value} {e:TypeId} {ps:List Pc} (hb:w.heap[g]?=some (.cells cur e (0,0))) (ht:cur.toList.take ps.length=ps.map enc):Holds enc w g 0 ps.toArray:=by
 intro j hj;have hj':j<ps.length:=by simpa using hj
 refine ⟨?_,by simp [World.frozen?,hb]⟩;have h1:(cur.toList.take ps.length)[j]?=(ps.map enc)[j]?:=by rw [ht]
 rw [List.getElem?_take_of_lt hj'] at h1;simp only [World.cell?,hb,Nat.zero_add];simp only [Option.isSome_none,Bool.false_eq_true,if_false];rw [<-Array.getElem?_toList,h1];simp [hj']
theorem ZqJ {w:World} {g:Nat} {ps:List Pc} (hg:g<w.heap.size) (h:Holds enc w g 0 ps.toArray):TxAt w g 0 (ps.map Pc.val):=by
 refine ⟨hg,fun i hi=>?_⟩;rw [List.length_map] at hi;rw [(h i (by simpa using hi)).1];simp [xa,enc,hi]
end Tr
theorem ZgR (xs:List ByteArray) (hn:xs.length<=12) (ps:List Tr.Pc) (hl:ps.length<=6144) (g cap mb bx:Nat) (w:World) (hH:Holds Tr.enc w g 0 ps.toArray) (hg:g<w.heap.size) (hgm:mb ≠ g) (hgb:bx ≠ g)
 (hcx:w.cell? ⟨bx,0,none⟩=some (.map (some mb))) (hC:Tr.CM w mb 6144 (Tr.ct xs)) :
 Calls Tryz.prog 147 #[.slice (some ⟨g,0,none⟩) ps.length cap,.func (.func 148) #[] #[.pointer (some ⟨bx,0,none⟩)]] w fun e w' =>
  e=.returned (.tuple #[])/\Tr.TxAt w' g 0 ((ps.mergeSort fun x y=>!ltOf (Tr.cfp xs) y x).map Tr.Pc.val)/\w.grownBy w' (some g):=by
 have eg:∀ args w,(callFunc 148 args).run Tryz.prog w=.ok (.enter 148 args) w:=enters_of Tryz.func148 (by kernel_rfl) rfl;have hcon:=Tryz.slices_SortFunc_total Tr.enc (fun _=>rfl) (Tr.cfp xs) (Tr.swo xs) 148 #[.pointer (some ⟨bx,0,none⟩)] g 0 cap ps.toArray w eg
  (fun m os dk _ x y=>(Ziu xs hn x.val y.val x.four y.four bx mb _ ((Tr.Zde dk).cell hcx (by simpa using hgb)) (hC.kept (Tr.Zde dk) (by simpa using hgm))).mono fun e w' ⟨he,hw⟩=>⟨he,0,#[],by rw [hw,grow_empty];rfl⟩)
  hH hg (by simp;omega) (Tr.parts xs)
 have hs:ps.toArray.size=ps.length:=by simp
 rw [hs] at hcon;refine hcon.mono ?_;rintro e w' ⟨rfl,n,os,rfl⟩;refine ⟨rfl,Tr.ZqJ (lt_sortWorld _ _ _ _ _ _ _ hg) (holds_sortWorld Tr.enc w g 0 n ps.toArray _ os hg hH (by simp)),Tr.Zde _⟩
theorem Zlp (xs:List ByteArray) (ad:Option Addr) (cap:Nat) (w:World) (hx:TxSl w ad xs) (hn:xs.length<=12) (hB:∀ i,(Tr.xa xs i).size<=512) (hM:Mx w) :
 Calls Tryz.prog 104 #[.slice ad xs.length cap] w fun e w'=>∃ ad' cap' L,e=.returned (.slice ad' (L:List ByteArray).length cap')/\L.length<=cap'/\L.length<=6144/\Tr.TxFar w.heap.size w' ad' L/\Tr.Rk xs L/\Below w.heap.size w w':=by
 have c1:=Zin xs ad cap w hx hn hB hM;clear hB hM hx;obtain ⟨i0,hi,hz0,hz1,hz2⟩:=info_parts (P:=Tryz.prog) (e:=9) (z:=.string ⟨#[]⟩) (size:=1) (bytes:=16) (by kernel_rfl);go_enter Tryz.func104,Tryz.ntmps104
 go_wp2_with fail
 refine c1.mono ?_;rintro e w1 ⟨rfl,⟨D,hown,hD2,hD3,hD4⟩,B1⟩;clear c1;have hs1:w.heap.size<w1.heap.size:=hown.lt
 go_wp2_with (first
  | (at_range;refine wpList_range_own _ rfl _ 140 rfl 9 3 keyS U140 _ w.heap.size 6144 _ rfl (hown.alloc _) ?_;intro w0 hrg0 hg0 hs0)
  | fail)
 go_frame
 have hs9:(w1.alloc (.cells #[.map (some w.heap.size)] 140 (0,0))).heap.size=w1.heap.size+1:=by simp
 have hcx:w0.cell? ⟨w1.heap.size,0,none⟩=some (.map (some w.heap.size)):=hg0.cell (cell_one_new _ _ _ 0 _ rfl) (by simp);have B0:Below w.heap.size w w0:=(B1.alloc B1.size _).grown hg0 (by simp;omega) (fun j hj=>by cases hj);have hz:=hown.size_le;generalize (w1.alloc (.cells #[.map (some w.heap.size)] 140 (0,0))).heap.size=r at hs9 hrg0 hs0 |-
 have hs8:Hid (r=w1.heap.size+1):=hs9;clear hs9
 go_loopw [4] (fun v wr=>∃ (left:Lit->Bool) (cnt:Nat) (ss:List ByteArray),wr.ranges Tryz.prog 9 (plainElem Tryz.prog 3) w.heap.size r 6144 D left cnt/\ss.length+cnt<=6144 ∧
  wr.ownsRow (w1.heap.size+2) 9 1 v ss.length (ss.map Value.string)/\Tr.Got xs D left ss/\wr.cell? ⟨w1.heap.size,0,none⟩=some (.map (some w.heap.size))/\w1.heap.size+2<=wr.heap.size/\Below w.heap.size w wr)
  (fun _ wr=>wr.rangeLeft w.heap.size r)
 case atStart=>exact ⟨_,_,[],hrg0,by simpa using hz,⟨rfl,.inl ⟨rfl,rfl⟩⟩,Tr.Got.start xs D,hcx,by have:=hs8.out;omega,B0⟩
 case round =>
  clear hrg0 hg0 hs0 hcx B0 hz;obtain ⟨left,cnt,ss,hrg,hcs,hrow,hG,hcx,hsz,hnx⟩:=hrel
  go_wp2_with (first
   | (at_next;(refine wpList_next_ranges _ rfl _ rfl 9 keyS (plainElem Tryz.prog 3) Value.string (Value.int .i64) (fun key kl hk=>by obtain ⟨x,hx,_⟩:=Maps.keyOf_str U9 hk;exact ⟨⟨x.toArray⟩,hx⟩) (fun v y hv=>by obtain ⟨c,rfl,_⟩:=plainElem_int_inv zU3 hv;exact ⟨c,rfl⟩) w.heap.size r 6144 _ _ _ rfl hrg ?_ ?_))
   | fail)
  ·intro hc0 hl0;have hall:=hG.all hl0 hD3 hD4;obtain ⟨ps,hps⟩:=Tr.lift ss (fun q hq=>((hall q).1 hq).1);have HR:Hid (Tr.Rk xs ((ps.mergeSort fun x y=>!ltOf (Tr.cfp xs) y x).map Tr.Pc.val)):=Tr.ZnZ hG.1 hall ps hps;have hlen:ps.length=ss.length:=by rw [<-hps,List.length_map]
   have hCM:Tr.CM wr w.heap.size 6144 (Tr.ct xs):=⟨D,hrg.owns,hD2,hD3,hD4⟩
   rcases hrow.2 with ⟨hnil,hn0⟩ | ⟨g,cap',cur,hv,hbase,hb,h1,h2,h3,h4⟩
   ·have c2:=fun fv=>Tryz.slices_SortFunc_none (α:=Tr.Pc) none 0 fv wr
    obtain rfl:ps=[]:=lZ.1 (by omega);clear hrow hps hlen hn0 hall hG hrg hcx hCM hown;subst hnil;go_wp2_with fail
    refine (c2 _).mono ?_;rintro e w2 ⟨rfl,rfl⟩;go_wp2_with fail
    go_ret
    exact ⟨none,0,[],rfl,by simp,by simp,.inl rfl,by simpa using HR.out,hnx⟩
   ·have hH:Holds Tr.enc wr g 0 ps.toArray:=Tr.ZpQ hb (by rw [hlen,<-Nat.mul_one ss.length,h4,<-hps,List.map_map];rfl);have hgl:g<wr.heap.size:=(aG.1 hb).1;have c2:=ZgR xs hn ps (by omega) g cap' w.heap.size w1.heap.size wr hH hgl (by omega) (by omega) hcx hCM;have hll:((ps.mergeSort fun x y=>!ltOf (Tr.cfp xs) y x).map Tr.Pc.val).length=ss.length:=by rw [List.length_map,List.length_mergeSort,hlen]
    rw [hlen] at c2;generalize (ps.mergeSort fun x y=>!ltOf (Tr.cfp xs) y x).map Tr.Pc.val=L at *;have hll':Hid (L.length=ss.length):=hll;clear hrow hps hlen hall hG hrg hcx hCM hown h4 h3 hb hH hll;subst hv;go_wp2_with fail
    refine c2.mono ?_;rintro e w2 ⟨rfl,hT,hgr⟩;have B2:=hnx.grown hgr hnx.size (fun j hj=>by cases hj;omega);go_wp2_with fail
    go_ret
    exact ⟨some ⟨g,0,none⟩,cap',L,by rw [hll'.out];rfl,by rw [hll'.out];exact h1,by rw [hll'.out];omega,.inr ⟨g,0,rfl,by omega,hT⟩,HR.out,B2⟩
  ·intro x c kl yd yp w2 cnt2 hkey hlk hv hat hrg2 hlt hg2 hs2 hen;obtain ⟨x',ex,rfl,_⟩:=Maps.keyOf_str U9 hkey;obtain rfl:x=⟨x'.toArray⟩:=by cases ex;rfl
   have hkx:Lit.string x'=Tr.kl ⟨x'.toArray⟩:=by simp [Tr.kl]
   have hx4:=hD4 x' (has_true_of_atKey hat);rw [hkx] at hlk hrg2 hat;have hh:has D (Tr.kl ⟨x'.toArray⟩)=true:=has_true_of_atKey hat;obtain ⟨c',hc1,hc2,_⟩:=plainElem_int_inv zU3 hv;obtain rfl:c=c':=by cases hc1;rfl
   have hcc:c=(Tr.ct xs ⟨x'.toArray⟩:Int):=Tr.CM.at_is hD3 _ ((Tr.Zpo x').trans hx4.1) c (by rw [hat];cases hc2;rfl);have hrow2:=hrow.kept hg2 (Or.inr (row_ne_iter hrow hrg).symm);have hcx2:=hg2.cell hcx (by simp;have:=hs8.out;omega);have hsz2:w1.heap.size+2<=w2.heap.size:=by omega
   have B2:Below w.heap.size w w2:=hnx.grown hg2 hnx.size (fun j hj=>by cases hj;have:=hs8.out;omega);generalize (⟨x'.toArray⟩:ByteArray)=X at *;clear hs2 hrow hcx hnx hkey hx4 ex hc1 hc2 hv;by_cases h2:2<=Tr.ct xs X
   ·have hci:(2:Int)<=c:=by omega
    have d1:decide ((2:Int)<=c)=true:=zdT hci;have hG2:=hG.yes hlk hh h2;clear hcc hG
    go_wp2_with (first
     | (at_builtin;refine wpList_append_own _ rfl _ _ 22 rfl (w1.heap.size+2) 9 i0 (.string ⟨#[]⟩) 1 16 U22 hi hz0 hz1 hz2 rfl (by decide) _ _ _ rfl (hrow2.alloc _) ⟨w2.heap.size,0,none⟩ 1 1 [.string X] rfl rfl (cell_one_new _ _ _) (by simp [Value.oneCell']) (by unfold maxLen at *;omega) (by omega) (by simp;omega) ?_;intro v' w3 hown' hg3 hnil3;go_frame)
     | fail)
    have hne1:=row_ne_low hrow2 (b:=w.heap.size) (by omega);have hne2:=row_ne_iter hrow2 hrg2;have hne3:=row_ne_low hrow2 (b:=w1.heap.size) (by omega);have hrg3:=(hrg2.alloc (.cells #[.string X] 9 (0,0))).kept hg3 hne1 hne2;have hcx3:=hg3.cell (((World.grownBy_alloc w2 (.cells #[.string X] 9 (0,0)) none).cell hcx2 (by simp))) hne3;have hsz3:w1.heap.size+2<=w3.heap.size:=by have:=hg3.size;simp at this;omega
    have B3:Below w.heap.size w w3:=(B2.alloc B2.size (.cells #[.string X] 9 (0,0))).grown hg3 (by simp;omega) (fun j hj=>by have:=(hrow2.lt j hj).1;omega);go_roundw
    case rel=>exact ⟨_,cnt2,ss++[X],hrg3,by simp;omega,by simpa using hown',hG2,hcx3,hsz3,B3⟩
    case measure=>rw [hrg3.left_eq,hrg.left_eq];exact hlt
   ·have hci:¬ (2:Int)<=c:=by omega
    have d1:decide ((2:Int)<=c)=false:=dF hci;have hG2:=hG.no (x:=X) (by omega);clear hcc hG;go_wp2_with fail
    go_roundw
    case rel=>exact ⟨_,cnt2,ss,hrg2,by omega,hrow2,hG2,hcx2,hsz2,B2⟩
    case measure=>rw [hrg2.left_eq,hrg.left_eq];exact hlt
end Go.Proofs.YtbjbjbpgmojcbabGreat
