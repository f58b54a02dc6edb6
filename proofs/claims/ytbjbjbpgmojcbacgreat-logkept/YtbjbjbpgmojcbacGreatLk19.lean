/- A part of the proof: what it leans on. -/
import Derived.Test.YtbjbjbpgmojcbacGreatLk18
set_option maxRecDepth 4000
set_option maxHeartbeats 2000000
namespace Go.Proofs.YtbjbjbpgmojcbacGreat
open Go.RowKit
namespace Ar
def ukT (ds:List ByteArray) (f:F):ByteArray:=if okf ds f=true then tx ds f else ⟨#[]⟩
end Ar
theorem ZeK (ad af:Option Addr) (cd cf:Nat) (a:Ar.A) (f:Ar.F) (w:World) (hx:TxSl w ad a.dicts) (hs:SaneA a) (hfb:f.blk.size<=140737488355328) :
 Calls Tryz.prog 62 #[av ad cd af cf a,fv f] w fun e w'=>e=.returned (.tuple #[.string (Ar.ukT a.dicts f),.bool (Ar.okf a.dicts f)])/\Below w.heap.size w w':=by
 have hn:=hs.nd;have c1:=fun w=>Zaw ad af cd cf a f.dict w hn
 have HX:Hid (∀ w',Below w.heap.size w w'->TxSl w' ad a.dicts):=fun w' h=>hx.below h
 clear hx
 cases hh:Ar.has a.dicts f.dict with
 | false =>
  have e1:Ar.okf a.dicts f=false:=by unfold Ar.okf;rw [hh];rfl
  have e2:Ar.ukT a.dicts f=⟨#[]⟩:=by unfold Ar.ukT;rw [e1];rfl
  rw [e1,e2];rw [hh] at c1;unfold av at c1 |-
  unfold fv;generalize a.dicts.length=D at *;generalize a.files.length=F at *;clear e1 e2 hh hs;go_enter Tryz.func62,Tryz.ntmps62
  go_wp2_with fail
  refine (c1 _).mono ?_;rintro e w1 ⟨rfl,G⟩;go_wp2_with fail
  go_ret2
  exact ⟨rfl,bch (((bR _ _).alloc (nl _) _).alloc (by simp) _) G (by simp)⟩
 | true =>
  have c2:=fun w hx=>ZbU ad af cd cf a f.dict w hx hn hh
  have c3:=fun w=>Zln (Ar.dct a.dicts f.dict) f.blk w (hs.dct _) hfb
  rw [hh] at c1;unfold av at c1 c2 |-
  unfold fv;have HO:Hid (Ar.okf a.dicts f=decide ((Ar.up a.dicts f).2=0/\((Ar.up a.dicts f).1.size:Int)=f.size/\Ar.sm (Ar.up a.dicts f).1=f.sum)):=by show _=_;unfold Ar.okf;rw [hh,Bool.true_and]
  have HU:Hid (Ar.up a.dicts f=Bk.unp (Ar.dct a.dicts f.dict) f.blk):=rfl;have HZ:Hid ((Ar.up a.dicts f).2=0->(Ar.up a.dicts f).1.size<=512):=fun h=>Bk.unp_size h
  generalize Ar.dct a.dicts f.dict=X at *;have HT:Hid (Ar.ukT a.dicts f=if Ar.okf a.dicts f=true then (Ar.up a.dicts f).1 else ⟨#[]⟩):=rfl;rw [HT.out,HO.out];rw [HU.out] at HZ |-
  obtain ⟨U,hU⟩:∃ U,Bk.unp X f.blk=U:=⟨_,rfl⟩
  simp only [hU] at c3 HZ |-
  obtain ⟨T,E⟩:=U;simp only at c3 HZ |-
  obtain ⟨r,hr⟩:∃ r,decide (E=0/\(T.size:Int)=f.size/\Ar.sm T=f.sum)=r:=⟨_,rfl⟩
  rw [hr];have HR:Hid (decide (E=0/\(T.size:Int)=f.size/\Ar.sm T=f.sum)=r):=hr
  obtain ⟨t,ht⟩:∃ t,(if r=true then T else ⟨#[]⟩)=t:=⟨_,rfl⟩
  rw [ht];have HT2:Hid ((if r=true then T else ⟨#[]⟩)=t):=ht;clear HO HU HT hU hh hs hr ht;generalize f.name=f0 at *;generalize f.dict=f1 at *;generalize f.size=f2 at *;generalize f.sum=f3 at *;generalize f.blk=f4 at *;generalize a.dicts.length=D at *;generalize a.files.length=F at *;go_enter Tryz.func62,Tryz.ntmps62
  go_wp2_with fail
  refine (c1 _).mono ?_;rintro e w1 ⟨rfl,G⟩;clear c1;have B0:Below w.heap.size w ((w.alloc (.cells #[.slice ad D cd,.slice af F cf] 33 (0,0))).alloc (.cells #[.string f0,.int .i64 f1,.int .i64 f2,.int .i64 f3,.string f4] 47 (0,0))):=((bR _ _).alloc (nl _) _).alloc (by simp) _;have hA:∀ i,w1.cell? ⟨w.heap.size,i,none⟩=(#[.slice ad D cd,.slice af F cf]:Array Value)[i]?:=fun i=>(G.cell (p:=⟨w.heap.size,i,none⟩) (by show w.heap.size<_;simp;omega)).trans ((box2 w _ _ _ _).1 i)
  have hF:∀ i,w1.cell? ⟨w.heap.size+1,i,none⟩=(#[.string f0,.int .i64 f1,.int .i64 f2,.int .i64 f3,.string f4]:Array Value)[i]?:=fun i=>(G.cell (p:=⟨w.heap.size+1,i,none⟩) (by simp)).trans ((box2 w _ _ _ _).2 i)
  have hz:w.heap.size+1<w1.heap.size:=by have:=G.size;simp at this;omega
  have B1:=bch B0 G (nl _);clear G B0;have a0:w1.cell? ⟨w.heap.size,0,none⟩=some (.slice ad D cd):=hA 0;have a1:w1.cell? ⟨w.heap.size,1,none⟩=some (.slice af F cf):=hA 1;have b1:w1.cell? ⟨w.heap.size+1,1,none⟩=some (.int .i64 f1):=hF 1;have b2:w1.cell? ⟨w.heap.size+1,2,none⟩=some (.int .i64 f2):=hF 2;have b3:w1.cell? ⟨w.heap.size+1,3,none⟩=some (.int .i64 f3):=hF 3;have b4:w1.cell? ⟨w.heap.size+1,4,none⟩=some (.string f4):=hF 4;clear hA hF
  have HS:Hid (∀ w',Below w1.heap.size w1 w'->Below w1.heap.size w1 w'/\w'.cell? ⟨w.heap.size,0,none⟩=some (.slice ad D cd)/\w'.cell? ⟨w.heap.size,1,none⟩=some (.slice af F cf)/\w'.cell? ⟨w.heap.size+1,1,none⟩=some (.int .i64 f1)/\w'.cell? ⟨w.heap.size+1,4,none⟩=some (.string f4)):=fun w' h =>
   ⟨h,(h.cell (p:=⟨w.heap.size,0,none⟩) (by show w.heap.size<_;omega)).trans a0,(h.cell (p:=⟨w.heap.size,1,none⟩) (by show w.heap.size<_;omega)).trans a1,(h.cell (p:=⟨w.heap.size+1,1,none⟩) hz).trans b1,(h.cell (p:=⟨w.heap.size+1,4,none⟩) hz).trans b4⟩
  have C2:Hid (∀ w',Below w1.heap.size w1 w'->Calls Tryz.prog 57 #[.agg #[.slice ad D cd,.slice af F cf],.int .i64 f1] w' fun e w2=>e=.returned (.string X)/\Below w'.heap.size w' w2):=fun w' h=>c2 w' (HX.out _ (bch B1 h (nl _)))
  have C3:Hid (∀ w,Calls Tryz.prog 96 #[.string X,.string f4] w fun e w2=>e=.returned (.tuple #[.string T,.int .i64 E])/\Below w.heap.size w w2):=c3;clear c2 c3;go_wp2_with fail
  go_region_held3 (fun w'=>Below w1.heap.size w1 w'/\w'.cell? ⟨w.heap.size,0,none⟩=some (.slice ad D cd)/\w'.cell? ⟨w.heap.size,1,none⟩=some (.slice af F cf)/\w'.cell? ⟨w.heap.size+1,1,none⟩=some (.int .i64 f1)/\w'.cell? ⟨w.heap.size+1,4,none⟩=some (.string f4))
   (first | (exact HS.out _ ((bR _ _).drew)) | (exact HS.out _ (bch (And.left (by assumption)) G5 (nl _))) | (exact HS.out _ (bch (And.left (by assumption)) G4 (nl _))) | (go_keep;done))
   (first
    | (go_at_call 57;refine (C2.out _ ?_).mono ?_;exact And.left (by assumption);rintro e w4 ⟨rfl,G4⟩)
    | (go_at_call 96;refine (C3.out _).mono ?_;rintro e w5 ⟨rfl,G5⟩))
  have B5:Below w1.heap.size w1 w5:=bch (bch ((bR _ _).drew) G4 (nl _)) G5 (nl _);have b2':=(B5.cell (p:=⟨w.heap.size+1,2,none⟩) hz).trans b2;have b3':=(B5.cell (p:=⟨w.heap.size+1,3,none⟩) hz).trans b3;have B6:=bch B1 B5 (nl _)
  have B7:Hid (∀ n,Below w.heap.size w (w5.drewN n)):=fun n=>⟨B6.os,B6.tape,B6.output,B6.size,B6.block⟩
  clear G4 G5 HS C2 C3 a0 a1 b1 b2 b3 b4 B5 B6 B1 HX;by_cases hE:E=0
  ·subst hE;have hT:=HZ.out rfl;have C6:=fun w=>ZlF T w (by omega)
   have hsm:Hid ((Zaz T T.size:Int)=Ar.sm T):=rfl;have hT':(T.size:Int)<=512:=by omega
   by_cases h2:(T.size:Int)=f2
   ·subst h2;by_cases h3:Ar.sm T=f3
    ·subst h3;have hr:Hid (r=true):=by show _=_;rw [<-HR.out];exact zdT ⟨rfl,rfl,rfl⟩
     clear HR;rw [hsm.out] at C6;generalize Ar.sm T=M at *;clear hsm;go_wp2_with fail
     go_quiet ((go_at_call 58;exact Calls.quiet_of_same (C6 _)))
     all_goals
      go_wp2_with fail
      go_ret2
      exact ⟨by rw [<-HT2.out,hr.out];rfl,B7.out _⟩
    ·have hr:Hid (r=false):=by show _=_;rw [<-HR.out];exact dF (fun h=>h3 h.2.2)
     clear HR;rw [hsm.out] at C6;generalize Ar.sm T=M at *;clear hsm;have e1:(M != f3)=true:=by simpa using h3
     have e2:(M == f3)=false:=by simpa using h3
     have e3:decide (M=f3)=false:=dF h3;go_wp2_with fail
     go_quiet ((go_at_call 58;exact Calls.quiet_of_same (C6 _)))
     all_goals
      go_wp2_with fail
      go_ret2
      exact ⟨by rw [<-HT2.out,hr.out];rfl,B7.out _⟩
   ·have hr:Hid (r=false):=by show _=_;rw [<-HR.out];exact dF (fun h=>h2 h.2.1)
    clear HR;have e1:((T.size:Int) != f2)=true:=by simpa using h2
    have e2:((T.size:Int) == f2)=false:=by simpa using h2
    have e3:decide ((T.size:Int)=f2)=false:=dF h2;clear C6 hsm;go_wp2_with fail
    go_quiet (fail)
    all_goals
     go_wp2_with fail
     go_ret2
     exact ⟨by rw [<-HT2.out,hr.out];rfl,B7.out _⟩
  ·have hr:Hid (r=false):=by show _=_;rw [<-HR.out];exact dF (fun h=>hE h.1)
   clear HR;have e1:(E != 0)=true:=by simpa using hE
   have e2:(E == 0)=false:=by simpa using hE
   have e3:decide (E=0)=false:=dF hE;go_wp2_with fail
   go_quiet (fail)
   all_goals
    go_wp2_with fail
    go_ret2
    exact ⟨by rw [<-HT2.out,hr.out];rfl,B7.out _⟩
namespace Ar
theorem ZaG {fs:List F} {i:Nat} (h:i<fs.length):fa fs i=fs[i]:=by simp [fa,h]
def Srt (fs:List F):Prop:=∀ i j,i<j->j<fs.length->Tr.bl (fa fs i).name (fa fs j).name=true
theorem ZpB {a b:ByteArray} (h:Tr.bl a b=true):Tr.bl b a=false:=by
 cases h2:Tr.bl b a with
 | false=>rfl
 | true=>have:=Tr.ZcO h h2;rw [Tr.ZcA] at this;cases this
theorem ZgD {a:A}:∀ {k i:Nat},gdK a k=true->i<k->okAt a i=true
 | 0,i,_,h=>by omega
 | k+1,i,h,hi=>by
  rw [gdK,Bool.and_eq_true] at h;by_cases e:i=k
  ·subst e;exact h.2
  ·exact ZgD h.1 (by omega)
theorem ZqE {a:A}:∀ {k:Nat},(∀ i,i<k->okAt a i=true)->gdK a k=true
 | 0,_=>rfl
 | k+1,h=>by rw [gdK,ZqE (fun i hi=>h i (by omega)),h k (by omega)];rfl
theorem ZcZ {a:A} {i:Nat} (h:okAt a i=true):isNm (fa a.files i).name=true/\(i=0\/Tr.bl (fa a.files (i - 1)).name (fa a.files i).name=true)/\okf a.dicts (fa a.files i)=true:=by
 simp only [okAt,Bool.and_eq_true,Bool.or_eq_true,decide_eq_true_iff] at h;exact ⟨h.1.1,h.1.2,h.2⟩
theorem Zqy {a:A} (h:gdK a a.files.length=true):Srt a.files:=by
 intro i j hij hj
 induction j with
 | zero=>omega
 | succ j ih =>
  have h1:=(ZcZ (ZgD h hj)).2.1;rcases h1 with h1 | h1
  ·omega
  ·by_cases e:i=j
   ·subst e;exact h1
   ·exact Tr.ZcO (ih (by omega) (by omega)) h1
theorem ZbE (fs:List F) (name:ByteArray):pos fs name<=fs.length:=(List.takeWhile_prefix _).length_le
theorem Zmx {fs:List F} {name:ByteArray} {i:Nat} (h:i<pos fs name):Tr.bl (fa fs i).name name=true:=by
 have hl:=ZbE fs name;have hp:fs.takeWhile (fun f=>Tr.bl f.name name) <+: fs:=List.takeWhile_prefix _;have h1:(fs.takeWhile fun f=>Tr.bl f.name name)[i]'h=fs[i]'(by omega):=List.IsPrefix.getElem hp h;rw [ZaG (by omega),<-h1];have:=List.all_takeWhile (p:=fun f=>Tr.bl f.name name) (l:=fs);rw [List.all_eq_true] at this;exact this _ (gM h)
theorem ZlZ {fs:List F} {name:ByteArray} (h:pos fs name<fs.length):Tr.bl (fa fs (pos fs name)).name name=false:=by
 rw [ZaG h]
 induction fs with
 | nil=>simp at h
 | cons f fs ih =>
  cases hb:Tr.bl f.name name with
  | false =>
   have e:pos (f :: fs) name=0:=by simp [pos,hb]
   simp only [e,List.getElem_cons_zero];exact hb
  | true =>
   have e:pos (f :: fs) name=pos fs name+1:=by simp [pos,hb]
   simp only [e,List.getElem_cons_succ];exact ih (by rw [e] at h;simpa using h)
theorem ZqX {fs:List F} {name:ByteArray} {i:Nat} (hi:i<=fs.length) (h1:∀ k,k<i->Tr.bl (fa fs k).name name=true) (h2:i<fs.length->Tr.bl (fa fs i).name name=false):pos fs name=i:=by
 by_cases e1:pos fs name<i
 ·have:=h1 _ e1;rw [ZlZ (by omega)] at this;cases this
 ·by_cases e2:i<pos fs name
  ·have:=h2 (by have:=ZbE fs name;omega);rw [Zmx e2] at this;cases this
  ·omega
theorem ZX {fs:List F} {name:ByteArray} (h:ZK fs name=true):pos fs name<fs.length/\(fa fs (pos fs name)).name=name:=of_decide_eq_true h
theorem ZiO {fs:List F} (hs:Srt fs) {i:Nat} (hi:i<fs.length):pos fs (fa fs i).name=i :=
 ZqX (by omega) (fun k hk=>hs k i hk hi) (fun _=>Tr.ZcA _)
theorem ZeY {fs:List F} (hs:Srt fs) {i:Nat} (hi:i<fs.length):ZK fs (fa fs i).name=true:=by
 rw [ZK,ZiO hs hi];exact zdT ⟨hi,rfl⟩
theorem ZnB {fs:List F} (hs:Srt fs) {name:ByteArray} (h:ZK fs name=false) {i:Nat} (hi:i<fs.length):(fa fs i).name ≠ name:=by
 rintro rfl;rw [ZeY hs hi] at h;cases h
theorem ZqY {fs:List F} (hs:Srt fs) {name:ByteArray} {i:Nat} (h1:pos fs name<i) (h2:i<fs.length):Tr.bl name (fa fs i).name=true:=by
 have h3:=ZlZ (fs:=fs) (name:=name) (by omega);have h4:=hs _ i h1 h2
 cases h5:Tr.bl name (fa fs (pos fs name)).name with
 | true=>exact Tr.ZcO h5 h4
 | false=>rw [Tr.Zfz h5 h3];exact h4
def fatK (fs:List F) (name:ByteArray):Nat->Option Nat
 | 0=>none
 | k+1=>match fatK fs name k with
  | some i=>some i
  | none=>if (fa fs k).name=name then some k else none
theorem Zng {fs:List F} {name:ByteArray} {k i:Nat} (h:fatK fs name k=some i):∀ j,fatK fs name (k+j)=some i:=by
 intro j
 induction j with
 | zero=>exact h
 | succ j ih=>rw [<-Nat.add_assoc,fatK,ih]
theorem Zhi {fs:List F} {name:ByteArray}:∀ {k:Nat},(match fatK fs name k with | none=>∀ j,j<k->(fa fs j).name ≠ name | some i=>i<k/\(fa fs i).name=name)
 | 0=>by intro j h;omega
 | k+1=>by
  have ih:=Zhi (fs:=fs) (name:=name) (k:=k);rw [fatK]
  cases h:fatK fs name k with
  | some i=>rw [h] at ih;exact ⟨by have:=ih.1;omega,ih.2⟩
  | none =>
   rw [h] at ih;simp only at ih |-
   by_cases hs:(fa fs k).name=name
   ·rw [if_pos hs];exact ⟨by omega,hs⟩
   ·rw [if_neg hs];intro j hj;by_cases e:j=k
    ·subst e;exact hs
    ·exact ih j (by omega)
theorem Zqx {fs:List F} (hs:Srt fs) (name:ByteArray):fatK fs name fs.length=if ZK fs name=true then some (pos fs name) else none:=by
 have h:=Zhi (fs:=fs) (name:=name) (k:=fs.length)
 cases hf:fatK fs name fs.length with
 | some i =>
  rw [hf] at h;obtain ⟨h1,rfl⟩:=h;rw [if_pos (ZeY hs h1),ZiO hs h1]
 | none =>
  rw [hf] at h
  cases ht:ZK fs name with
  | false=>rfl
  | true =>
   obtain ⟨h1,h2⟩:=ZX ht;exact absurd h2 (h _ h1)
def rpK (fs:List F) (f:F):Nat->List F × Bool
 | 0=>([],false)
 | k+1 =>
  let s:=rpK fs f k
  let t:=if s.2=false/\Tr.bl (fa fs k).name f.name=false then (s.1++[f],true) else s
  if (fa fs k).name=f.name then t else (t.1++[fa fs k],t.2)
def ZeJ (fs:List F) (f:F):List F:=if (rpK fs f fs.length).2=true then (rpK fs f fs.length).1 else (rpK fs f fs.length).1++[f]
theorem ZN {fs:List F} {k:Nat} (h:k<fs.length):fs.take (k+1)=fs.take k++[fa fs k]:=by
 rw [List.take_succ_eq_append_getElem h,ZaG h]
theorem ZiD {fs:List F} {f:F}:∀ {k:Nat},k<=pos fs f.name->rpK fs f k=(fs.take k,false)
 | 0,_=>by simp [rpK]
 | k+1,h=>by
  have hl:=ZbE fs f.name;have hb:=Zmx (fs:=fs) (name:=f.name) (i:=k) (by omega);have hne:(fa fs k).name ≠ f.name:=by intro e;rw [e,Tr.ZcA] at hb;cases hb
  rw [rpK,ZiD (by omega)];simp only [hb,Bool.true_eq_false,and_false,if_false,if_neg hne];rw [ZN (by omega)]
def th (fs:List F) (name:ByteArray):Nat:=if ZK fs name=true then 1 else 0
theorem ZjG {fs:List F} (hs:Srt fs) {f:F}:∀ {k:Nat},pos fs f.name<k->k<=fs.length->rpK fs f k=(fs.take (pos fs f.name)++f :: (fs.take k).drop (pos fs f.name+th fs f.name),true)
 | 0,h,_=>by omega
 | k+1,h,hk=>by
  rw [rpK];by_cases e:pos fs f.name=k
  ·rw [ZiD (by omega)];have hb:=ZlZ (fs:=fs) (name:=f.name) (by omega);rw [e] at hb;simp only [hb,and_self,if_true]
   cases ht:ZK fs f.name with
   | true =>
    have h2:=(ZX ht).2;rw [e] at h2;rw [if_pos h2,th,if_pos ht,e,List.drop_of_length_le (by rw [List.length_take];omega)]
   | false =>
    have hne:(fa fs k).name ≠ f.name:=ZnB hs ht (by omega);rw [if_neg hne,th,if_neg (by rw [ht];decide),e,Nat.add_zero,ZN (by omega),List.drop_append_of_le_length (by rw [List.length_take];omega),List.drop_of_length_le (by rw [List.length_take];omega)];simp
  ·rw [ZjG hs (by omega) (by omega)];have hgt:=ZqY hs (name:=f.name) (i:=k) (by omega) (by omega);have hne:(fa fs k).name ≠ f.name:=by intro e9;rw [e9,Tr.ZcA] at hgt;cases hgt
   simp only [Bool.true_eq_false,false_and,if_false,if_neg hne];have hth:th fs f.name<=1:=by unfold th;split <;> omega
   rw [ZN (by omega),List.drop_append_of_le_length (by rw [List.length_take];omega)];simp
theorem ZpO {fs:List F} (hs:Srt fs) (f:F):ZeJ fs f=putF fs f:=by
 unfold ZeJ putF;by_cases h:pos fs f.name<fs.length
 ·rw [ZjG hs h (Nat.le_refl _)];simp only [if_true,List.take_length];rfl
 ·have h2:pos fs f.name=fs.length:=by have:=ZbE fs f.name;omega
  rw [ZiD (by omega)];have ht:ZK fs f.name=false:=dF (by omega);simp [h2,ht]
def rdK (fs:List F) (name:ByteArray):Nat->List F
 | 0=>[]
 | k+1=>if (fa fs k).name=name then rdK fs name k else rdK fs name k++[fa fs k]
theorem Znu {fs:List F} {name:ByteArray}:∀ {k:Nat},k<=pos fs name->rdK fs name k=fs.take k
 | 0,_=>by simp [rdK]
 | k+1,h=>by
  have hl:=ZbE fs name;have hb:=Zmx (fs:=fs) (name:=name) (i:=k) (by omega);have hne:(fa fs k).name ≠ name:=by intro e;rw [e,Tr.ZcA] at hb;cases hb
  rw [rdK,Znu (by omega),if_neg hne,ZN (by omega)]
theorem Zjo {fs:List F} (hs:Srt fs) {name:ByteArray} (ht:ZK fs name=true):∀ {k:Nat},pos fs name<k->k<=fs.length->rdK fs name k=fs.take (pos fs name)++(fs.take k).drop (pos fs name+1)
 | 0,h,_=>by omega
 | k+1,h,hk=>by
  rw [rdK];by_cases e:pos fs name=k
  ·have h2:=(ZX ht).2;rw [e] at h2;rw [Znu (by omega),if_pos h2,e,List.drop_of_length_le (by rw [List.length_take];omega)];simp
  ·rw [Zjo hs ht (by omega) (by omega)];have hgt:=ZqY hs (name:=name) (i:=k) (by omega) (by omega);have hne:(fa fs k).name ≠ name:=by intro e9;rw [e9,Tr.ZcA] at hgt;cases hgt
   rw [if_neg hne,ZN (by omega),List.drop_append_of_le_length (by rw [List.length_take];omega)];simp
theorem Zuy {fs:List F} (hs:Srt fs) {name:ByteArray} (ht:ZK fs name=true):rdK fs name fs.length=fs.take (pos fs name)++fs.drop (pos fs name+1):=by
 rw [Zjo hs ht (ZX ht).1 (Nat.le_refl _),List.take_length]
end Ar
namespace Cd
theorem Zsb {f g:Nat->Int} {n:Int} {x:Int × (Nat->Int)}:∀ k,(∀ i,i<k->f i=g i)->wI f n x k=wI g n x k:=by
 intro k
 induction k with
 | zero=>intro _;rfl
 | succ k ih=>intro h;rw [wI,wI,ih (fun i hi=>h i (by omega)),h k (by omega)]
theorem Zrm {f g:Nat->Int} (h:∀ i,i<16->f i=g i):∀ n,wO f n=wO g n:=by
 intro n
 induction n with
 | zero=>rfl
 | succ n ih=>rw [wO,wO,ih,Zsb 16 h]
theorem Zpj {f g:Nat->Int} (h:∀ i,i<16->f i=g i):wds f=wds g:=by rw [wds,wds,Zrm h]
theorem ZmJ {f g ws:Nat->Int} {n word:Int}:∀ k,(∀ i,i<k->f i=g i)->find f ws n word k=find g ws n word k:=by
 intro k
 induction k with
 | zero=>intro _;rfl
 | succ k ih=>intro h;rw [find,find,ih (fun i hi=>h i (by omega)),h k (by omega)]
theorem Zpq {f g ws:Nat->Int} {b:ByteArray} (h:∀ i,i<16->f i=g i):∀ m n word a,sgn f ws b m n word a=sgn g ws b m n word a:=by
 intro m
 induction m with
 | zero=>intro _ _ _;rfl
 | succ m ih=>intro n word a;rw [sgn,sgn,ih,fnd,fnd,ZmJ 16 h]
theorem ZpK {f g:Nat->Int} {b:ByteArray} (h:∀ i,i<16->f i=g i) (a:Nat):s15 f b a=s15 g b a:=by rw [s15,s15,Zpj h,Zpq h]
theorem Zot {f g:Nat->Int} {b:ByteArray} (h:∀ i,i<16->f i=g i):∀ k,rdK f b k=rdK g b k:=by
 intro k
 induction k with
 | zero=>rfl
 | succ k ih=>rw [rdK,rdK,ih];simp only [ZpK h]
theorem Zsa {f g:Nat->Int}:∀ k,(∀ i,i<k->f i=g i)->sm f k=sm g k:=by
 intro k
 induction k with
 | zero=>intro _;rfl
 | succ k ih=>intro h;rw [sm,sm,ih (fun i hi=>h i (by omega)),h k (by omega)]
theorem Zqj {f g:Nat->Int} (h:∀ i,i<16->f i=g i):chk f=chk g:=by
 have e:InR f 15 16 ↔ InR g 15 16:=⟨fun h9 i hi=>by rw [<-h i hi];exact h9 i hi,fun h9 i hi=>by rw [h i hi];exact h9 i hi⟩
 rw [chk,chk,Zsa 16 h];by_cases h1:InR f 15 16
 ·rw [if_pos h1,if_pos (e.1 h1)]
 ·rw [if_neg h1,if_neg (fun h9=>h1 (e.2 h9))]
theorem ZsI {f g:Nat->Int} {b:ByteArray} {n:Int} (h:∀ i,i<16->f i=g i):rd f b n=rd g b n:=by
 rw [rd,rd,Zqj h,Zot h]
theorem Zsn {f:Nat->Int} {s:ByteArray}:∀ k,(∀ i,i<k->f (at8 s i / 16) ≠ 0/\f (at8 s i % 16) ≠ 0)->∃ bs,wrK f s k=some bs:=by
 intro k
 induction k with
 | zero=>intro _;exact ⟨[],rfl⟩
 | succ k ih =>
  intro h;obtain ⟨bs,e⟩:=ih (fun i hi=>h i (by omega));have h1:=h k (by omega);exact ⟨_,ZfN e (fun h9=>h9.elim h1.1 h1.2)⟩
end Cd
namespace Bk
theorem Zpi (s:ByteArray):∀ k i,hvK s k i<=hvK s (k+1) i:=by
 intro k i;rw [hvK];unfold upd;split
 ·rename_i h
  split
  ·rename_i h2;rw [<-h2,h];omega
  ·rw [h];omega
 ·split
  ·rename_i h2;rw [h2];omega
  ·exact Int.le_refl _
theorem Zqr (s:ByteArray) (k i:Nat):∀ j,hvK s k i<=hvK s (k+j) i:=by
 intro j
 induction j with
 | zero=>exact Int.le_refl _
 | succ j ih=>exact Int.le_trans ih (Zpi s (k+j) i)
theorem ZpV (s:ByteArray) (k:Nat):1<=hvK s (k+1) (Cd.at8 s k / 16)/\1<=hvK s (k+1) (Cd.at8 s k % 16):=by
 have h1:=(ZhP s k (Cd.at8 s k / 16)).1;have h2:=(ZhP s k (Cd.at8 s k % 16)).1;rw [hvK];unfold upd;refine ⟨?_,?_⟩
 ·split
  ·split <;> omega
  ·rw [if_pos rfl];omega
 ·rw [if_pos rfl];split <;> omega
theorem ZlT {s:ByteArray} {k:Nat} (h:k<s.size):1<=hv s (Cd.at8 s k / 16)/\1<=hv s (Cd.at8 s k % 16):=by
 have h1:=ZpV s k;have h2:=Zqr s (k+1) (Cd.at8 s k / 16) (s.size - (k+1));have h3:=Zqr s (k+1) (Cd.at8 s k % 16) (s.size - (k+1));rw [show k+1+(s.size - (k+1))=s.size by omega] at h2 h3;unfold hv;omega
theorem Zqf {s:ByteArray} (h0:s.size ≠ 0) (h:s.size<=1024):(Cd.bld (hv s)).2=0:=by
 unfold Cd.bld;rw [if_neg (fun h9=>h9 (ZnQ s h))];have h1:=(ZlT (s:=s) (k:=0) (by omega)).1;have h2:=((Cd.ZfS (hv s) 16).1 (Cd.at8 s 0 / 16) (by have:=Cd.ZaC s 0;omega) (by omega)).1;rw [if_neg h2];split <;> rfl
theorem ZoQ {s:ByteArray} (h0:s.size ≠ 0) (h:s.size<=1024):(Cd.wrt (Cd.bld (hv s)).1 s).2=0:=by
 obtain ⟨hc,hz,_⟩:=Cd.ZjM (hv s) (Zqf h0 h)
 have hn:∀ i,i<16->¬ (0<hv s i/\(Cd.bld (hv s)).1 i=0):=by
  cases hq:Cd.cst (Cd.bld (hv s)).1 (hv s) 16 with
  | none=>rw [ZnV hc (ZnQ s h) hq] at hz;exact absurd hz (by decide)
  | some n=>exact (Cd.Zoe 16 n hq).1
 obtain ⟨bs,e⟩:=Cd.Zsn (f:=(Cd.bld (hv s)).1) (s:=s) s.size (fun i hi=>by
  have h1:=ZlT hi;have h2:=Cd.ZaC s i
  exact ⟨fun h9=>hn _ (by omega) ⟨by omega,h9⟩,fun h9=>hn _ (by omega) ⟨by omega,h9⟩⟩)
 rw [Cd.wrt,if_neg (fun h9=>h9 hc),if_neg (by omega),e]
theorem Zub (f:Nat->Int) (h:Cd.InR f 15 16) (j:Nat) (hj:j<8):(Cd.at8 ⟨(jn f).toArray⟩ j:Int)=f (2*j)*16+f (2*j+1):=by
 have h1:=h (2*j) (by omega);have h2:=h (2*j+1) (by omega);unfold Cd.at8 jn jnK;simp only [List.getElem?_map,List.getElem?_range hj,Option.map_some,Option.getD_some];rw [UInt8.toNat_ofNat'];omega
theorem Zuu (f:Nat->Int) (h:Cd.InR f 15 16):∀ i,i<16->pt ⟨(jn f).toArray⟩ i=f i:=by
 intro i hi;have h1:=Zub f h (i / 2) (by omega);have h2:=h (2*(i / 2)) (by omega);have h3:=h (2*(i / 2)+1) (by omega);unfold pt ptK;rw [if_pos (by omega)];split
 ·rename_i h4
  rw [show 2*(i / 2)=i by omega] at *;omega
 ·rename_i h4
  rw [show 2*(i / 2)+1=i by omega] at *;omega
theorem ZnC (a b:ByteArray):(a++b).extract 0 a.size=a:=by
 apply Nm.ZF;simp [ByteArray.data_extract,ByteArray.data_append,Array.toList_extract];rw [List.take_of_length_le (by rw [Cd.Zf];exact nl _)]
theorem Zfm (a b:ByteArray):(a++b).extract a.size (a++b).size=b:=by
 apply Nm.ZF;simp [ByteArray.data_extract,ByteArray.data_append,Array.toList_extract];rw [List.drop_of_length_le (by rw [Cd.Zf];exact nl _),List.take_nil,List.nil_append,List.take_of_length_le (by rw [Cd.Zf];exact nl _)]
theorem Zra (f:Nat->Int):(⟨(jn f).toArray⟩:ByteArray).size=8:=by
 show (jn _).toArray.size=_;simp [jn,ZcY]
theorem Zsd {s:ByteArray} (h0:s.size ≠ 0) (h:s.size<=1024):dec (enc s)=(s,0):=by
 have hL:=ZnG (ZnQ s h);have hw:=ZoQ h0 h;unfold enc;generalize (Cd.bld (hv s)).1=L at *;rw [ByteArray.append_assoc];have e8:=Zra L;have x1:=ZnC ⟨(jn L).toArray⟩ ((⟨(Nm.nb s.size).toArray⟩:ByteArray)++(Cd.wrt L s).1);have x2:=Zfm ⟨(jn L).toArray⟩ ((⟨(Nm.nb s.size).toArray⟩:ByteArray)++(Cd.wrt L s).1);have x3:=Zfm ⟨(Nm.nb s.size).toArray⟩ (Cd.wrt L s).1;rw [e8] at x1 x2
 have hf:Nm.Zm ((⟨(Nm.nb s.size).toArray⟩:ByteArray)++(Cd.wrt L s).1).data.toList=some (s.size,(Nm.nb s.size).length):=by
  rw [Nm.appd];exact Nm.Zec s.size _ (by omega)
 have e9:(⟨(Nm.nb s.size).toArray⟩:ByteArray).size=(Nm.nb s.size).length:=by
  show (Nm.nb s.size).toArray.size=_;simp
 rw [e9] at x3;rw [ZfF (n:=s.size) (k:=(Nm.nb s.size).length) (by rw [ByteArray.size_append,e8];omega) (by rw [x2];exact hf),x1,x2,x3,Cd.ZsI (Zuu L hL),Cd.Ztz hw,if_pos rfl]
theorem Znb (xs:List ByteArray):∀ n,(mnK xs n).size<=(xa xs 0).size:=by
 intro n
 induction n with
 | zero=>exact nl _
 | succ n ih =>
  rw [mnK];split <;> omega
theorem Zsr (xs:List ByteArray) (h:xs ≠ []):∀ n,n<=xs.length->mnK xs n ∈ xs:=by
 intro n
 induction n with
 | zero =>
  intro _
  cases xs with
  | nil=>exact absurd rfl h
  | cons x xs=>exact List.mem_cons_self
 | succ n ih =>
  intro hn;rw [mnK];split
  ·have e:xa xs n=xs[n]'(by omega):=by rw [xa,List.getD_eq_getElem?_getD,List.getElem?_eq_getElem (by omega)];rfl
   rw [e];exact gM _
  ·exact ih (by omega)
theorem ZmF (x:UInt8) (b:ByteArray):Cd.at8 ((⟨#[x]⟩:ByteArray)++b) 0=x.toNat:=by
 unfold Cd.at8;rw [Nm.appd];rfl
theorem Ziq (x:UInt8) (b:ByteArray):((⟨#[x]⟩:ByteArray)++b).extract 1 ((⟨#[x]⟩:ByteArray)++b).size=b:=Zfm ⟨#[x]⟩ b
theorem Zs (x:UInt8) (b:ByteArray):((⟨#[x]⟩:ByteArray)++b).size=b.size+1:=by
 rw [ByteArray.size_append];show 1+_=_;omega
theorem Ztj {dict text:ByteArray} (hd:dict.size<=256) (ht:text.size<=512):ply dict (tk dict text)=(text,0):=by
 obtain ⟨h1,h2⟩:=Zbm dict text hd ht;unfold ply;rw [tk,ZeX h1];simp only [h2]
theorem ZhS {dict text:ByteArray} (hd:dict.size<=256) (ht:text.size<=512):(pak dict text).2=0/\unp dict (pak dict text).1=(text,0)/\(pak dict text).1.size<=text.size+1:=by
 have e:pak dict text=(mnK (bks text (tk dict text)) (bks text (tk dict text)).length,0):=if_neg (by omega);rw [e];have hp:=Ztj hd ht;have hz:=ZhE hd ht;generalize tk dict text=s at *;have hne:bks text s ≠ []:=by unfold bks;split <;> simp
 have hx:xa (bks text s) 0=(⟨#[0]⟩:ByteArray)++text:=by unfold bks;split <;> rfl
 have hf:=Znb (bks text s) (bks text s).length;rw [hx,Zs] at hf;refine ⟨rfl,?_,hf⟩;have hm:=Zsr (bks text s) hne _ (nl _);simp only;generalize mnK (bks text s) (bks text s).length=b at *
 have u0:unp dict ((⟨#[0]⟩:ByteArray)++text)=(text,0):=by
  rw [unp,if_neg (by omega),if_neg (by rw [Zs];omega),ZmF,if_pos (by decide),Ziq,whl,if_neg (by omega)]
 have u1:unp dict ((⟨#[1]⟩:ByteArray)++s)=(text,0):=by
  rw [unp,if_neg (by omega),if_neg (by rw [Zs];omega),ZmF,if_neg (by decide),if_pos (by decide),Ziq,hp]
 have u2:s.size ≠ 0->unp dict ((⟨#[2]⟩:ByteArray)++enc s)=(text,0):=by
  intro h0;rw [unp,if_neg (by omega),if_neg (by rw [Zs];omega),ZmF,if_neg (by decide),if_neg (by decide),if_pos (by decide),Ziq,Zsd h0 hz,if_pos rfl,hp]
 unfold bks at hm;by_cases h0:s.size=0
 ·rw [if_pos h0] at hm;simp only [List.mem_cons,List.not_mem_nil,or_false] at hm;rcases hm with rfl | rfl
  ·exact u0
  ·exact u1
 ·rw [if_neg h0] at hm;simp only [List.mem_cons,List.not_mem_nil,or_false] at hm;rcases hm with rfl | rfl | rfl
  ·exact u0
  ·exact u1
  ·exact u2 h0
end Bk
namespace Ar
def SrtP (fs:List F):Prop:=fs.Pairwise fun f g=>Tr.bl f.name g.name=true
theorem Zmo {fs:List F}:Srt fs ↔ SrtP fs:=by
 unfold Srt SrtP;rw [List.pairwise_iff_getElem];constructor
 ·intro h i j hi hj hij;have:=h i j hij hj
  rwa [ZaG hi,ZaG hj] at this
 ·intro h i j hij hj;rw [ZaG (by omega),ZaG hj];exact h i j (by omega) hj hij
theorem ZrR {a:A}:gdK a a.files.length=true ↔ (∀ f ∈ a.files,isNm f.name=true/\okf a.dicts f=true)/\SrtP a.files:=by
 constructor
 ·intro h;refine ⟨fun f hf=>?_,Zmo.1 (Zqy h)⟩;obtain ⟨i,hi,rfl⟩:=List.mem_iff_getElem.1 hf;have:=ZcZ (ZgD h hi);rw [ZaG hi] at this;exact ⟨this.1,this.2.2⟩
 ·rintro ⟨h1,h2⟩;refine ZqE fun i hi=>?_
  have h3:=h1 _ (gM hi);simp only [okAt,Bool.and_eq_true,Bool.or_eq_true,decide_eq_true_iff];refine ⟨⟨by rw [ZaG hi];exact h3.1,?_⟩,by rw [ZaG hi];exact h3.2⟩;by_cases e:i=0
  ·exact .inl e
  ·exact .inr (Zmo.2 h2 (i - 1) i (by omega) hi)
theorem Ze {a:A}:chk a=0 ↔ many a=false/\gdK a a.files.length=true:=by
 unfold chk
 cases many a <;> cases gdK a a.files.length <;> simp
theorem ZaX {a:A} (h:chk a=0):Srt a.files:=Zqy (Ze.1 h).2
theorem Zjx {xs:List ByteArray}:∀ {k:Nat},lgK xs k=none ↔ ∀ i,i<k->(Tr.xa xs i).size<=256
 | 0=>by simp [lgK]
 | k+1=>by
  rw [lgK];have ih:=Zjx (xs:=xs) (k:=k)
  cases h:lgK xs k with
  | some i =>
   simp only [reduceCtorEq,false_iff];intro h2;rw [ih.2 (fun i hi=>h2 i (by omega))] at h;cases h
  | none =>
   have h1:=ih.1 h;simp only;by_cases hs:256<(Tr.xa xs k).size
   ·rw [if_pos hs];simp only [reduceCtorEq,false_iff];intro h2;have:=h2 k (by omega);omega
   ·rw [if_neg hs];simp only [true_iff];intro i hi;by_cases e:i=k
    ·subst e;omega
    ·exact h1 i (by omega)
theorem Ztg {xs:List ByteArray}:lgK xs xs.length=none ↔ ∀ d ∈ xs,d.size<=256:=by
 rw [Zjx];constructor
 ·intro h d hd;obtain ⟨i,hi,rfl⟩:=List.mem_iff_getElem.1 hd;have:=h i hi
  rwa [show Tr.xa xs i=xs[i] by simp [Tr.xa,hi]] at this
 ·intro h i hi;rw [show Tr.xa xs i=xs[i] by simp [Tr.xa,hi]];exact h _ (gM hi)
theorem Zw {a:A}:many a=false ↔ a.dicts.length<=4/\a.files.length<=12/\∀ d ∈ a.dicts,d.size<=256:=by
 rw [<-Ztg,many,Bool.or_eq_false_iff,decide_eq_false_iff_not]
 cases h:lgK a.dicts a.dicts.length <;> simp <;> omega
theorem ZaL {a:A} (h:many a=false) (n:Int):(dct a.dicts n).size<=256:=by
 have h3:=(Zw.1 h).2.2;unfold dct;split
 ·show 0<=_;omega
 ·generalize (n - 1).toNat=m;by_cases hi:m<a.dicts.length
  ·rw [show Tr.xa a.dicts m=a.dicts[m] by simp [Tr.xa,hi]];exact h3 _ (gM hi)
  ·rw [show Tr.xa a.dicts m=⟨#[]⟩ by simp [Tr.xa,show a.dicts.length<=m by omega]];show 0<=_;omega
theorem ZrQ (fs:List F) (f:F):(putF fs f).length=if ZK fs f.name=true then fs.length else fs.length+1:=by
 unfold putF;have:=ZbE fs f.name;rw [List.length_append,List.length_cons,List.length_take,List.length_drop]
 cases ht:ZK fs f.name with
 | true=>have:=(ZX ht).1;simp;omega
 | false=>simp;omega
theorem ZgW {a:A} {name text:ByteArray} {dict:Int} (h:putE a name text dict=0) :
 chk a=0/\isNm name=true/\has a.dicts dict=true/\text.size<=512/\(ZK a.files name=true\/a.files.length ≠ 12):=by
 unfold putE at h;by_cases h1:chk a=0
 ·rw [if_neg (fun h9=>h9 h1)] at h
  cases h2:isNm name with
  | false=>rw [h2] at h;simp at h
  | true =>
   cases h3:has a.dicts dict with
   | false=>rw [h2,h3] at h;simp at h
   | true =>
    rw [h2,h3] at h;simp only [Bool.true_eq_false,if_false] at h;split at h
    ·cases h
    ·rename_i h4
     refine ⟨h1,by simp,by simp,by omega,?_⟩
     cases h5:ZK a.files name with
     | true=>exact .inl rfl
     | false=>right;intro e;exact h4 (.inr ⟨h5,e⟩)
 ·rw [if_pos h1] at h;exact absurd h h1
theorem ZlR {a:A} {name text:ByteArray} {dict:Int} (h:putE a name text dict=0):putA a name text dict=⟨a.dicts,putF a.files (pk a.dicts name text dict)⟩:=if_pos h
theorem ZoU {a:A} {name:ByteArray} (h:getE a name=0):Zbw a name=⟨a.dicts,a.files.take (pos a.files name)++a.files.drop (pos a.files name+1)⟩:=if_pos h
end Ar
theorem toList_inj {a b:ByteArray} (h:a.toList=b.toList):a=b:=by
 rw [ByteArray.toList_eq,ByteArray.toList_eq] at h
 cases a;cases b
 simpa using h
theorem Zou (a b:ByteArray):(a.toList == b.toList)=decide (a=b):=by
 by_cases h:a=b
 ·subst h;simp
 ·rw [decide_eq_false h,Bool.eq_false_iff];intro e;exact h (toList_inj (by simpa using e))
theorem ZkF (p t:ByteArray) (w:World) (hp:p.size<=140737488355328) (ht:t.size<=140737488355328) :
 Calls Tryz.prog 74 #[.string p,.string t] w fun e w'=>e=.returned (.bool (Tr.st p t))/\Below w.heap.size w w':=by
 obtain ⟨r,hr⟩:∃ r,Tr.st p t=r:=⟨_,rfl⟩
 rw [hr];have Hr:Hid (Tr.stK p t (t.size+1)=r):=hr;clear hr;go_enter Tryz.func74,Tryz.ntmps74
 go_wp2_with fail
 go_loopw [5] (fun i wr=>∃ k:Nat,k<=t.size+1/\i=.int .i64 k/\Hid (Tr.stK p t k=false)/\Below w.heap.size w wr) (fun i _=>t.size+1 - (intOf i).toNat)
 case atStart=>exact ⟨0,by omega,rfl,rfl,bR _ _⟩
 case round =>
  obtain ⟨k,hk2,rfl,HL,B1⟩:=hrel
  obtain ⟨J,hJ⟩:∃ J,k+p.size=J:=⟨_,rfl⟩
  have m1:(k:Int)+(p.size:Int)=(J:Int):=by omega
  have w1:IntKind.i64.wrap (J:Int)=(J:Int):=IntWalk.i64_in _ ⟨by omega,by omega⟩;by_cases hlt:J<=t.size
  ·have d1:decide ((J:Int)<=(t.size:Int))=true:=by simp;omega
   have hJi:(J:Int)<=(t.size:Int):=by omega
   have hkJ:(k:Int)<=(J:Int):=by omega
   have hkJn:k<=J:=by omega
   have hkt:k<t.size+1:=by omega
   have HS:=Zou (t.extract k J) p
   obtain ⟨S,hS⟩:∃ S,t.extract k J=S:=⟨_,rfl⟩
   rw [hS] at HS;by_cases he:S=p
   ·have HN:Hid (Tr.stK p t (k+1)=true):=by show _=_;rw [Tr.stK,hJ,hS,decide_eq_true ⟨hlt,he⟩,Bool.or_true]
    have HR:Hid (true=r):=by
     have h9:=Tr.ZpC HN.out (t.size+1 - (k+1));rw [show k+1+(t.size+1 - (k+1))=t.size+1 by omega] at h9;exact h9.symm.trans Hr.out
    rw [decide_eq_true he] at HS;clear HN he hJ Hr HL;go_wp2_with fail
    go_ret
    exact ⟨congrArg (fun x=>Ending.returned (Value.bool x)) HR.out,B1⟩
   ·have HN:Hid (Tr.stK p t (k+1)=false):=by show _=_;rw [Tr.stK,hJ,hS,HL.out,decide_eq_false (fun h9=>he h9.2),Bool.or_false]
    rw [decide_eq_false he] at HS;clear he hJ HL;go_wp2_with fail
    go_roundw
    case rel=>exact ⟨k+1,by omega,by go_num,HN,B1⟩
    case measure=>simp [intOf];omega
  ·have d1:decide ((J:Int)<=(t.size:Int))=false:=by simp;omega
   have hJi:(t.size:Int)<(J:Int):=by omega
   have HR:Hid (false=r):=by
    have h9:=Tr.Zif (p:=p) (t:=t) (k:=k) (by omega) (t.size+1 - k);rw [show k+(t.size+1 - k)=t.size+1 by omega] at h9;exact (HL.out.symm.trans h9.symm).trans Hr.out
   clear Hr HL hJ;go_wp2_with fail
   go_ret
   exact ⟨congrArg (fun x=>Ending.returned (Value.bool x)) HR.out,B1⟩
namespace Tr
theorem Zef (t p:ByteArray) (hp:0<p.size) (j:Nat):Lib.occAt t.data.toList p.data.toList j=true ↔ j+p.size<=t.size/\t.extract j (j+p.size)=p:=by
 have hl:p.data.toList.length=p.size:=by simp
 have ht:t.data.toList.length=t.size:=by simp
 have he:(t.extract j (j+p.size)).data.toList=(t.data.toList.drop j).take p.size:=by
  rw [ByteArray.data_extract,Array.toList_extract,List.extract_eq_take_drop];congr 1;omega
 rw [Lib.occAt,List.isPrefixOf_iff_prefix,List.prefix_iff_eq_take,hl];constructor
 ·intro h;have h2:=congrArg List.length h;rw [List.length_take,List.length_drop,hl,ht] at h2;refine ⟨by omega,?_⟩;apply Zbq;rw [ByteArray.toList_eq,ByteArray.toList_eq,he];exact h.symm
 ·rintro ⟨_,h⟩;rw [<-he,h]
theorem ZmU (t p:ByteArray) (hp:0<p.size) (i:Nat) (hi:i+p.size<=t.size) (h:t.extract i (i+p.size)=p):decide (Lib.index t.data.toList p.data.toList=(i:Int))=!stK p t i:=by
 have ht:t.data.toList.length=t.size:=by simp
 have ho:=(Zef t p hp i).2 ⟨hi,h⟩;rcases Lib.index_spec t.data.toList p.data.toList with ⟨h1,h2⟩ | ⟨k,h1,h2,h3,h4⟩
 ·have:=h2 i (by omega);rw [ho] at this;cases this
 ·cases hs:stK p t i with
  | true =>
   obtain ⟨j,hj,hj2⟩:=ZfG.1 hs
   have hk:k<=j:=by
    apply Nat.le_of_not_lt;intro hlt;have:=h4 j hlt;rw [(Zef t p hp j).2 hj2] at this;cases this
   rw [h1];exact dF (by omega)
  | false =>
   have hk:¬ k<i:=fun hlt=>by
    have:=ZfG.2 ⟨k,hlt,(Zef t p hp k).1 h3⟩;rw [hs] at this;cases this
   have hk2:¬ i<k:=fun hlt=>by have:=h4 i hlt;rw [ho] at this;cases this
   rw [h1];exact zdT (by omega)
theorem ZhB (t p:ByteArray) (hp:0<p.size):Lib.contains t.data.toList p.data.toList=st p t:=by
 have ht:t.data.toList.length=t.size:=by simp
 unfold Lib.contains;rcases Lib.index_spec t.data.toList p.data.toList with ⟨h1,h2⟩ | ⟨k,h1,h2,h3,h4⟩
 ·rw [h1]
  cases hs:st p t with
  | false=>rfl
  | true =>
   obtain ⟨j,hj,hj2⟩:=ZeE.1 hs;have:=h2 j (by omega);rw [(Zef t p hp j).2 ⟨hj,hj2⟩] at this;cases this
 ·rw [h1,ZeE.2 ⟨k,(Zef t p hp k).1 h3⟩];exact zdT (by omega)
def cn (xs:List ByteArray) (k i:Nat) (q:ByteArray):Nat:=ctK xs q k+(if stK q (xa xs k) i=true then 1 else 0)
theorem Zmg (xs:List ByteArray) (k:Nat) (q:ByteArray):cn xs k 0 q=ctK xs q k:=by simp [cn,stK]
theorem ZqF {xs:List ByteArray} {k i:Nat} {q:ByteArray} (hq:q.size=4) (hi:(xa xs k).size<=i+3):cn xs k i q=ctK xs q (k+1):=by
 rw [cn,ctK,st];by_cases h:i<=(xa xs k).size+1
 ·have:=Zif (p:=q) (t:=xa xs k) (k:=i) (by omega) ((xa xs k).size+1 - i);rw [show i+((xa xs k).size+1 - i)=(xa xs k).size+1 by omega] at this;rw [this]
 ·have:=Zif (p:=q) (t:=xa xs k) (k:=(xa xs k).size+1) (by omega) (i - ((xa xs k).size+1));rw [show (xa xs k).size+1+(i - ((xa xs k).size+1))=i by omega] at this;rw [this]
theorem ZpP {q t:ByteArray} {i:Nat} (hq:q.size=4) (hne:q ≠ pc t i):stK q t (i+1)=stK q t i:=by
 rw [stK,decide_eq_false,Bool.or_false];rintro ⟨_,h⟩;rw [hq] at h;exact hne h.symm
theorem Zff {xs:List ByteArray} {k i:Nat} {q:ByteArray} (hq:q.size=4) (hne:q ≠ pc (xa xs k) i):cn xs k (i+1) q=cn xs k i q:=by
 rw [cn,cn,ZpP hq hne]
theorem ZqA {xs:List ByteArray} {k i:Nat} (h:stK (pc (xa xs k) i) (xa xs k) i=true) {q:ByteArray} (hq:q.size=4):cn xs k (i+1) q=cn xs k i q:=by
 by_cases hne:q=pc (xa xs k) i
 ·subst hne;rw [cn,cn,h,stK,h,Bool.true_or]
 ·exact Zff hq hne
theorem ZqC {xs:List ByteArray} {k i:Nat} (hi:i<(xa xs k).size - 3) (h:stK (pc (xa xs k) i) (xa xs k) i=false):cn xs k (i+1) (pc (xa xs k) i)=cn xs k i (pc (xa xs k) i)+1:=by
 have h4:=Zeh hi;have:stK (pc (xa xs k) i) (xa xs k) (i+1)=true:=ZfG.2 ⟨i,by omega,by omega,by rw [h4];rfl⟩;rw [cn,cn,h,this];simp
theorem ZtJ (xs:List ByteArray) (k i:Nat) (q:ByteArray):cn xs k i q<=k+1:=by
 have:=Zjs xs q k;rw [cn];split <;> omega
end Tr
end Go.Proofs.YtbjbjbpgmojcbacGreat
