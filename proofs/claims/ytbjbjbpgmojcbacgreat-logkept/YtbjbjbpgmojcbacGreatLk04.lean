/- A part of the proof: what it leans on. -/
import Derived.Test.YtbjbjbpgmojcbacGreatLk03
set_option maxRecDepth 4000
set_option maxHeartbeats 4000000
namespace Go.Proofs.YtbjbjbpgmojcbacGreat
open Go.RowKit
theorem App.box {wr w3:World} {B:Nat} {v v':Value} {l':List UInt8} {x y z:Value} {T:TypeId} (hA:App (wr.alloc (.cells #[x,y,z] T)) w3 B v v' l') (hne:∀ g,v.ownBlock=some g->g<wr.heap.size) :
 w3.cell? ⟨wr.heap.size,0,none⟩=some x/\w3.cell? ⟨wr.heap.size,1,none⟩=some y/\w3.cell? ⟨wr.heap.size,2,none⟩=some z:=by
 have h1:wr.heap.size<(wr.alloc (.cells #[x,y,z] T)).heap.size:=by simp
 have h2:some wr.heap.size ≠ v.ownBlock:=fun e=>Nat.lt_irrefl _ (hne _ e.symm)
 refine ⟨(hA.cell h1 h2).trans ?_,(hA.cell h1 h2).trans ?_,(hA.cell h1 h2).trans ?_⟩ <;> (rw [World.cell?_alloc_mark];rfl)
theorem Zps (dict:ByteArray) (ad:Option Addr) (cap:Nat) (l:List Tk.T) (w:World) (hl:SlAt w ad l) (hs:Sane l) (e0:Int) (he:Zl dict l=e0) (hne:(e0 != 0)=true) :
 Calls Tryz.prog 151 #[.string dict,.slice ad l.length cap] w fun e w'=>e=.returned (.tuple #[.string ⟨#[]⟩,.int .i64 e0])/\Below w.heap.size w w':=by
 have hc:=fun w hl=>Zgr dict ad cap l w hl hs
 rw [he] at hc;clear he;go_enter Tryz.func151,Tryz.ntmps151
 go_wp2_with fail
 refine (hc _ hl).mono ?_;rintro e w1 ⟨rfl,G⟩;clear hc;go_wp2_with fail
 go_ret2
 exact ⟨rfl,G⟩
theorem ZrO (dict:ByteArray) (b off cap:Nat) (l:List Tk.T) (w:World) (hb:b<w.heap.size) (hl:TkAt w b off l) (hs:Sane l) (hd:dict.size<=256) (s1:List UInt8) (hr:Tk.run dict.size dict.data.toList false l=(0,s1)) :
 Calls Tryz.prog 151 #[.string dict,.slice (some ⟨b,off,none⟩) l.length cap] w fun e w'=>e=.returned (.tuple #[.string ⟨(s1.drop dict.size).toArray⟩,.int .i64 0])/\Below w.heap.size w w':=by
 have hc:=ZcT dict b off cap l w hd hb hl hs;rw [hr] at hc;have hd':(dict.size:Int)<=256:=by omega
 have hn':(l.length:Int)<=140737488355328:=by have:=hs.1;omega
 go_enter Tryz.func151,Tryz.ntmps151
 go_wp2_with fail
 refine hc.mono ?_;rintro e w1 ⟨rfl,G⟩;clear hc;obtain ⟨v,w2,hcv,ho,G2,hv,hvg⟩:=Own8.of_string w1 dict (by omega) w.heap.size G.size;obtain ⟨g,cp,rfl,hg1,hg2,hg3,hg4,_⟩:=ho.form hv;have G3:=bch G G2 (nl _);have Hr:Hid (Tk.run dict.size dict.data.toList false l=(0,s1)):=hr;clear hr;go_wp2_with fail
 clear hcv hv hvg
 go_loopw [7,20] (fun x i wr=>∃ (k g cp:Nat) (s:List UInt8) (p:Bool),k<=l.length/\i=.int .i64 k/\x=.slice (some ⟨g,0,none⟩) s.length cp/\Own8 wr w.heap.size (.slice (some ⟨g,0,none⟩) s.length cp) s ∧
  Hid (Tk.run dict.size s p (l.drop k)=(0,s1))/\dict.size<=s.length/\s.length<=dict.size+512/\Below w.heap.size w wr)
  (fun _ i _=>l.length - (intOf i).toNat)
 case atStart =>
  exact ⟨0,g,cp,dict.data.toList,false,by omega,rfl,by simp,by simpa using ho,Hr,by simp,by simp,G3⟩
 case round =>
  clear ho hg1 hg2 hg3 hg4 G G2 G3;obtain ⟨k,g',cp',s,p,hk,rfl,rfl,ho,hrun,hs1,hs2,G⟩:=hrel;by_cases hlt:k<l.length
  ·have hdrop:l.drop k=l[k] :: l.drop (k+1):=List.drop_eq_getElem_cons hlt;obtain ⟨c0,c1,c2⟩:=hl k hlt;rw [<-G.cell (by exact hb)] at c0 c1 c2;rw [hdrop] at hrun;clear hdrop hl hs;generalize l[k]=t at *
   have he:Tk.err dict.size s p t=0:=by
    by_cases h:Tk.err dict.size s p t=0
    ·exact h
    ·have:=hrun.out;rw [Tk.Zaf h] at this;simp only [Prod.mk.injEq] at this;exact absurd this.1 h
   have HR:Hid (Tk.run dict.size (Tk.make s t) (decide (t.lit.size ≠ 0)) (l.drop (k+1))=(0,s1)):=by
    have:=hrun.out;rw [Tk.Zai he] at this;exact this
   have hmk:=Tk.ZbZ he;have hgs:=G.size;have HO:Hid (Own8 wr w.heap.size (.slice (some ⟨g',0,none⟩) s.length cp') s):=ho;clear ho he hrun;go_wp2_with (at_builtin;refine Zcl _ rfl _ _ rfl w.heap.size (.slice (some ⟨g',0,none⟩) s.length cp') s rfl (HO.out.alloc _) t.lit rfl (by omega) (ZG _ hgs) ?_;intro v1 w3 hA;obtain ⟨k0,k1,k2⟩:=hA.box (fun g hg=>(HO.out.lt g hg).2))
   obtain ⟨wo,rfl⟩:∃ wo:World,wo=wr:=⟨_,rfl⟩
   have hown:=hA.own;have hnn:=hA.some_ (by simp);obtain ⟨g1,cp1,rfl,hh1,hh2,hh3,hh4,_⟩:=hown.form hnn;have hat:=hA.at_ g1 rfl;have hgo:=HO.out.lt g' rfl
   have hne1:g1 ≠ wo.heap.size:=by
    rcases hat with h | h
    ·simp [Value.ownBlock] at h;omega
    ·simp at h;omega
   have G1:Below w.heap.size w w3:=(G.alloc hgs _).trans hA.below
   have hsz1:wo.heap.size<w3.heap.size:=by
    have:=hA.below.size;simp at this;omega
   have hlen0:(s++t.lit.data.toList).length=s.length+t.lit.size:=by simp
   have HK:Hid (Tk.make s t=Tk.copy t.far.toNat t.len.toNat (s++t.lit.data.toList)):=by
    show _=_;unfold Tk.make;by_cases h0:t.lit.size=0
    ·have:t.lit.data.toList=[]:=List.eq_nil_of_length_eq_zero (by simpa using h0);rw [if_neg (by omega),this,List.append_nil]
    ·rw [if_pos h0,(hmk.2.2.2.1 h0).2];rfl
   have hmk1:=hmk.1;have hmk2:=hmk.2.1;have hl00:0<=t.len:=hmk.2.1;have hmk5:=hmk.2.2.2.2
   have HF:Hid (0<t.len->1<=t.far/\t.far<=s.length/\t.lit.size=0/\t.len<=64):=by
    intro hp;by_cases h0:t.lit.size=0
    ·have:=hmk.2.2.1 h0;omega
    ·have:=hmk.2.2.2.1 h0;omega
   clear hmk hA hnn hat k0 c0 c1 c2;generalize hS:s++t.lit.data.toList=S at *;clear hS
   have hl64:t.len<=64\/t.len<=0:=by
    by_cases hp:0<t.len
    ·left;exact (HF.out hp).2.2.2
    ·right;omega
   have hl65:t.len<=64:=by omega
   have HL0:Hid (S.length=s.length+t.lit.size):=hlen0;have HM1:Hid ((Tk.make s t).length=s.length+t.lit.size+t.len.toNat):=hmk1;clear hl64 hmk2 hlen0 hmk1
   go_loopw [7,30] (fun x i wi=>∃ (j g cp:Nat),(j:Int)<=t.len/\i=.int .i64 j/\x=.slice (some ⟨g,0,none⟩) (Tk.copy t.far.toNat j S).length cp/\Own8 wi w.heap.size (.slice (some ⟨g,0,none⟩) (Tk.copy t.far.toNat j S).length cp) (Tk.copy t.far.toNat j S) ∧
    g ≠ wo.heap.size/\wo.heap.size<wi.heap.size/\wi.cell? ⟨wo.heap.size,1,none⟩=some (.int .i64 t.far)/\Below w.heap.size w wi)
    (fun _ i _=>64 - (intOf i).toNat)
   case atStart=>exact ⟨0,g1,cp1,by omega,rfl,rfl,hown,hne1,hsz1,k1,G1⟩
   case round =>
    clear hown hne1 hsz1 k1 G1 hh1 hh2 hh3 hh4 k2 G hgo;obtain ⟨j,g2,cp2,hj,rfl,rfl,hown,hne2,hsz2,k1,G⟩:=hrel;by_cases hjl:(j:Int)<t.len
    ·obtain ⟨f1,f2,f3,f4⟩:=HF.out (by omega);have hlen0:=HL0.out;obtain ⟨F,hF⟩:=Int.eq_ofNat_of_zero_le (a:=t.far) (by omega);have hcl:=Tk.Zea t.far.toNat j S;have hcs:=Tk.Zek t.far.toNat j S;generalize hfn:t.far.toNat=fn at *;generalize Tk.copy fn j S=X at *;obtain ⟨ga,ca,hq,_,q2,_,_,q5⟩:=hown.form (by simp);simp only [Value.slice.injEq,Option.some.injEq,Addr.mk.injEq,and_true,true_and] at hq;obtain ⟨rfl,rfl⟩:=hq;have hfF:fn=F:=by omega
     subst hfF;rw [hF] at k1;have HFF:Hid (t.far=(fn:Int)):=hF;have hXl:fn<=X.length:=by omega
     have hix:X.length - fn<X.length:=by omega
     obtain ⟨bt,hbt⟩:∃ bt,X[X.length - fn]?=some bt:=⟨_,List.getElem?_eq_getElem hix⟩
     have hld:=q5 _ _ hbt
     have HX1:Hid (Tk.copy fn (j+1) S=X++[bt]):=by
      show _=_;rw [hcs];simp [List.getD,hbt]
     have HO2:Hid (Own8 wr w.heap.size (.slice (some ⟨g2,0,none⟩) X.length cp2) X):=hown;have hi1:(0:Int)<=(X.length:Int) - (fn:Int):=by omega
     have hi2:(X.length:Int) - (fn:Int)<(X.length:Int):=by omega
     have hXb:(X.length:Int)<=1000:=by omega
     have hgs2:=G.size;have HCL:Hid (X.length=S.length+j):=hcl;clear hown hcs q5 hbt hfn HF hF hcl f3 f1 f2 f4 hlen0;go_wp2_with (at_builtin;refine ZkA _ rfl _ _ rfl w.heap.size (.slice (some ⟨g2,0,none⟩) X.length cp2) X rfl (HO2.out.alloc _) bt wr.heap.size 1 rfl (by rw [World.cell?_alloc_mark];rfl) (by omega) (ZG _ hgs2) ?_;intro v4 w4 hA4)
     go_roundw
     case rel =>
      obtain ⟨g3,cp3,rfl,r1,r2,r3,r4,_⟩:=hA4.own.form (hA4.some_ (by simp));have hat:=hA4.at_ g3 rfl;have hsz4:=hA4.below.size;simp at hsz4;refine ⟨j+1,g3,cp3,by omega,by go_num,by rw [HX1.out],by rw [HX1.out];exact hA4.own,?_,by omega,?_,(G.alloc hgs2 _).trans hA4.below⟩
      ·rcases hat with h | h
       ·have:g2=g3:=by simpa [Value.ownBlock] using h
        omega
       ·simp at h;omega
      ·rw [hA4.cell (by simp;omega) (by simp [Value.ownBlock];omega),HFF.out,<-k1];exact (bR _ _ |>.alloc (nl _) _).cell (by exact hsz2)
     case measure=>simp [intOf];omega
    ·have hjt:j=t.len.toNat:=by omega
     subst hjt;have HK2:=HK.out;rw [<-HK2] at hown;clear HK2 k1;go_wp2_with fail
     go_roundw
     case rel =>
      have h9:=HM1.out;refine ⟨k+1,g2,cp2,Tk.make s t,_,by omega,by go_num,by rw [HK.out],hown,HR,by omega,by omega,G⟩
     case measure=>simp [intOf];omega
  ·have hs1':s=s1:=by
    have:=hrun.out;rw [List.drop_eq_nil_of_le (by omega)] at this;simpa [Tk.run] using this
   subst hs1';obtain ⟨ga,ca,hq,_,q2,q3,q4,q5⟩:=ho.form (by simp);simp only [Value.slice.injEq,Option.some.injEq,Addr.mk.injEq,and_true,true_and] at hq;obtain ⟨rfl,rfl⟩:=hq;have hcv:=fun c=>Own8.conv q5 dict.size c
   have hi1:(dict.size:Int)<=(s.length:Int):=by omega
   have hi2:(s.length:Int)<=(cp':Int):=by omega
   have hi3:(s.length:Int)<=1000:=by omega
   have hi4:(cp':Int)<=9223372036854775807:=by unfold maxLen at q4;omega
   have hd1:decide ((k:Int)<(l.length:Int))=false:=by simp;omega
   have hd2:decide (k<l.length)=false:=by simp;omega
   by_cases hcd:cp'=dict.size
   ·have hsl:s.length=dict.size:=by omega
    have hcv0:∀ c,(convert 77 9 (.slice (some ⟨g',0,none⟩) 0 c)).run Tryz.prog wr=.ok (.string ⟨#[]⟩) wr:=fun c =>
     Own8.conv (w:=wr) (l:=[]) (g:=g') (fun j b hj=>by simp at hj) 0 c
    have HS:Hid (s.drop dict.size=[]):=List.drop_eq_nil_of_le (by omega);subst hcd;clear hrun q5 hl hs ho hcv;go_wp2_with fail
    go_ret2
    exact ⟨by rw [HS.out];rfl,G⟩
   ·clear hrun q5 hl hs ho;go_wp2_with fail
    go_ret2
    exact ⟨rfl,G⟩
theorem ZoT (dict:ByteArray) (ad:Option Addr) (cap:Nat) (w:World) (hd:dict.size<=256) :
 Calls Tryz.prog 151 #[.string dict,.slice ad 0 cap] w fun e w'=>e=.returned (.tuple #[.string ⟨#[]⟩,.int .i64 0])/\Below w.heap.size w w':=by
 have hc:=ZeG dict ad cap w hd;have hd':(dict.size:Int)<=256:=by omega
 go_enter Tryz.func151,Tryz.ntmps151
 go_wp2_with fail
 refine hc.mono ?_;rintro e w1 ⟨rfl,G⟩;clear hc;obtain ⟨v,w2,hcv,ho,G2,hv,hvg⟩:=Own8.of_string w1 dict (by omega) w.heap.size G.size;obtain ⟨g,cp,rfl,hg1,hg2,hg3,hg4,q5⟩:=ho.form hv;have G3:=bch G G2 (nl _);have hlen:dict.data.toList.length=dict.size:=by simp
 rw [hlen] at hcv hg3;have hcv1:=fun c=>Own8.conv q5 dict.size c
 rw [hlen,Nat.sub_self,List.drop_eq_nil_of_le (by omega)] at hcv1
 have hcv0:∀ c,(convert 77 9 (.slice (some ⟨g,0,none⟩) 0 c)).run Tryz.prog w2=.ok (.string ⟨#[]⟩) w2:=fun c =>
  Own8.conv (w:=w2) (l:=[]) (g:=g) (fun j b hj=>by simp at hj) 0 c
 have hi2:(dict.size:Int)<=(cp:Int):=by omega
 have hi4:(cp:Int)<=9223372036854775807:=by unfold maxLen at hg4;omega
 clear q5 hv hvg ho hlen;by_cases hcd:cp=dict.size
 ·subst hcd;go_wp2_with fail
  refine wp_loop_rounds 1 ?_;rw [rounds_succ];go_wp2_with fail
  go_ret2
  exact ⟨rfl,G3⟩
 ·go_wp2_with fail
  refine wp_loop_rounds 1 ?_;rw [rounds_succ];go_wp2_with fail
  go_ret2
  exact ⟨rfl,G3⟩
def Zas (dict:ByteArray) (l:List Tk.T):ByteArray:=if Zl dict l ≠ 0 then ⟨#[]⟩ else ⟨((Tk.run dict.size dict.data.toList false l).2.drop dict.size).toArray⟩
theorem Zoo (dict:ByteArray) (ad:Option Addr) (cap:Nat) (l:List Tk.T) (w:World) (hl:SlAt w ad l) (hs:Sane l) :
 Calls Tryz.prog 151 #[.string dict,.slice ad l.length cap] w fun e w'=>e=.returned (.tuple #[.string (Zas dict l),.int .i64 (Zl dict l)])/\Below w.heap.size w w':=by
 unfold Zas;by_cases h0:Zl dict l=0
 ·rw [if_neg (by simpa using h0),h0]
  have hd:dict.size<=256:=by
   unfold Zl at h0;by_cases h:256<dict.size
   ·rw [if_pos h] at h0;omega
   ·omega
  have h1:(Tk.run dict.size dict.data.toList false l).1=0:=by
   unfold Zl at h0
   rwa [if_neg (by omega)] at h0
  rcases hl with rfl | ⟨b,off,rfl,hb,ht⟩
  ·have e:(Tk.run dict.size dict.data.toList false []).2.drop dict.size=[]:=List.drop_eq_nil_of_le (by simp [Tk.run]);rw [e];exact ZoT dict ad cap w hd
  ·exact ZrO dict b off cap l w hb ht hs hd _ (by rw [<-h1])
 ·rw [if_pos h0];exact Zps dict ad cap l w hl hs _ rfl (by simpa using h0)
theorem ZU (n a b:Int) (w:World) (h1:a<=n) (h2:n<=b) :
 Calls Tryz.prog 38 #[.int .i64 n,.int .i64 a,.int .i64 b] w fun e w'=>e=.returned (.bool true)/\w'=w:=by
 have d1:decide (a<=n)=true:=by simpa using h1
 have d2:decide (n<=b)=true:=by simpa using h2
 go_enter Tryz.func38,Tryz.ntmps38
 go_wp2_with fail
 go_ret
 exact ⟨rfl,rfl⟩
theorem ZbB (n a b:Int) (w:World) (h:¬ (a<=n/\n<=b)) :
 Calls Tryz.prog 38 #[.int .i64 n,.int .i64 a,.int .i64 b] w fun e w'=>e=.returned (.bool false)/\w'=w:=by
 by_cases h1:a<=n
 ·have d1:decide (a<=n)=true:=by simpa using h1
  have d2:decide (n<=b)=false:=by simp;omega
  clear h;go_enter Tryz.func38,Tryz.ntmps38
  go_wp2_with fail
  go_ret
  exact ⟨rfl,rfl⟩
 ·have d1:decide (a<=n)=false:=by simp;omega
  clear h;go_enter Tryz.func38,Tryz.ntmps38
  go_wp2_with fail
  go_ret
  exact ⟨rfl,rfl⟩
def ZcS (l:List Tk.T) (k:Nat):Bool:=decide (0<k) && decide ((l[k - 1]?.map (fun t=>t.lit.size)).getD 0 ≠ 0)
theorem Zpc (dict:ByteArray) (ad:Option Addr) (n cap:Nat) (w:World) (hd:256<dict.size) :
 Calls Tryz.prog 137 #[.string dict,.slice ad n cap] w fun e w'=>e=.returned (.tuple #[.string ⟨#[]⟩,.int .i64 2])/\Below w.heap.size w w':=by
 have h:decide ((256:Int)<(dict.size:Int))=true:=by simp;omega
 have h':(256:Int)<(dict.size:Int):=by omega
 go_enter Tryz.func137,Tryz.ntmps137
 go_wp2_with fail
 go_ret2
 exact ⟨rfl,bR _ _⟩
theorem ZrX (dict:ByteArray) (ad:Option Addr) (cap:Nat) (w:World) (hd:dict.size<=256) :
 Calls Tryz.prog 137 #[.string dict,.slice ad 0 cap] w fun e w'=>e=.returned (.tuple #[.string ⟨#[]⟩,.int .i64 0])/\Below w.heap.size w w':=by
 have h:decide ((256:Int)<(dict.size:Int))=false:=by simp;omega
 have h':(dict.size:Int)<=256:=by omega
 have he:dict.extract dict.size dict.size=⟨#[]⟩:=by
  apply Nm.ZF;rw [Lib.extract_data];simp
 go_enter Tryz.func137,Tryz.ntmps137
 go_wp2_with fail
 refine wp_loop_rounds 1 ?_;rw [rounds_succ];go_wp2_with fail
 go_ret2
 exact ⟨rfl,bR _ _⟩
theorem Zf (S:ByteArray):S.data.toList.length=S.size:=by simp
theorem ZoG (dict:ByteArray) (b off cap:Nat) (l:List Tk.T) (w:World) (hd:dict.size<=256) (hb:b<w.heap.size) (hl:TkAt w b off l) (hs:Sane l) :
 Calls Tryz.prog 137 #[.string dict,.slice (some ⟨b,off,none⟩) l.length cap] w fun e w'=>e=.returned (.tuple #[.string (if (Tk.run dict.size dict.data.toList false l).1 ≠ 0 then ⟨#[]⟩ else ⟨((Tk.run dict.size dict.data.toList false l).2.drop dict.size).toArray⟩),.int .i64 (Tk.run dict.size dict.data.toList false l).1])/\Below w.heap.size w w':=by
 have h:decide ((256:Int)<(dict.size:Int))=false:=by simp;omega
 have h':(dict.size:Int)<=256:=by omega
 have hn:=hs.1;have hn':(l.length:Int)<=140737488355328:=by omega
 generalize hR:Tk.run dict.size dict.data.toList false l=R at *
 obtain ⟨E,hE⟩:∃ E:Int,R.1=E:=⟨_,rfl⟩
 obtain ⟨Z,hZ⟩:∃ Z:ByteArray,(if R.1 ≠ 0 then (⟨#[]⟩:ByteArray) else ⟨(R.2.drop dict.size).toArray⟩)=Z:=⟨_,rfl⟩
 rw [hZ,hE]
 have HZ0:Hid (∀ e x,R=(e,x)->e ≠ 0->E=e/\Z=⟨#[]⟩):=by
  intro e x he hne;subst he;exact ⟨hE.symm,by rw [<-hZ,if_pos hne]⟩
 have HZ1:Hid (∀ x,R=(0,x)->E=0/\Z=⟨(x.drop dict.size).toArray⟩):=by
  intro x he;subst he;exact ⟨hE.symm,by rw [<-hZ,if_neg (by simp)]⟩
 have HR:Hid (Tk.run dict.size dict.data.toList false l=R):=hR;clear hR hE hZ;go_enter Tryz.func137,Tryz.ntmps137
 go_wp2_with fail
 go_loopw [6,7] (fun x i wr=>∃ (k:Nat) (S:ByteArray) (p:Bool),k<=l.length/\i=.int .i64 k/\x=.string S/\Hid (Tk.run dict.size S.data.toList p (l.drop k)=R)/\Hid (p=ZcS l k) ∧
  dict.size<=S.size/\S.size<=dict.size+512/\Below w.heap.size w wr)
  (fun _ i _=>l.length - (intOf i).toNat)
 case atStart=>exact ⟨0,dict,false,by omega,rfl,rfl,HR,rfl,by omega,by omega,bR _ _⟩
 case round =>
  obtain ⟨k,S,p,hk,rfl,rfl,hrun,hp,hs1,hs2,G⟩:=hrel;have hS:(S.size:Int)<=1000:=by omega
  by_cases hlt:k<l.length
  ·have hdrop:l.drop k=l[k] :: l.drop (k+1):=List.drop_eq_getElem_cons hlt;obtain ⟨c0,c1,c2⟩:=hl k hlt;have hlit:=hs.2 l[k] (gM hlt);rw [<-G.cell (by exact hb)] at c0 c1 c2;rw [hdrop] at hrun
   have HP:Hid (0<k->wr.cell? ⟨b,off+(k - 1)*3,none⟩=some (.string (l[k - 1]'(by omega)).lit)):=by
    intro hk0;rw [G.cell (by exact hb)];exact (hl (k - 1) (by omega)).1
   have HQ:Hid (ZcS l (k+1)=decide (l[k].lit.size ≠ 0)):=by
    show _=_;simp [ZcS,List.getElem?_eq_getElem hlt]
   generalize l[k]=t at *;have hgs:=G.size;have hpl:k=0\/0<k:=by omega
   clear hdrop hl hs;by_cases h0:t.lit.size ≠ 0
   ·have hE0:=ZW h0;by_cases hf:t.far ≠ 0
    ·have hf':(t.far != 0)=true:=by simp [hf]
     have he:Tk.err dict.size S.data.toList p t=1:=by
      unfold Tk.err;rw [if_pos h0,if_pos (Or.inl hf)]
     have HX:Hid (E=1/\Z=⟨#[]⟩):=HZ0.out _ _ (hrun.out.symm.trans (Tk.Zaf (by rw [he];omega))) (by rw [he];omega) |>.imp (fun h=>h.trans he) id
     go_wp2_with fail
     go_ret2
     exact ⟨by rw [HX.out.1,HX.out.2];rfl,G.alloc hgs _⟩
    ·have hf':(t.far != 0)=false:=by simpa using hf
     by_cases hn:t.len ≠ 0
     ·have hn':(t.len != 0)=true:=by simp [hn]
      have he:Tk.err dict.size S.data.toList p t=1:=by
       unfold Tk.err;rw [if_pos h0,if_pos (Or.inr (Or.inl hn))]
      have HX:Hid (E=1/\Z=⟨#[]⟩):=HZ0.out _ _ (hrun.out.symm.trans (Tk.Zaf (by rw [he];omega))) (by rw [he];omega) |>.imp (fun h=>h.trans he) id
      go_wp2_with fail
      go_ret2
      exact ⟨by rw [HX.out.1,HX.out.2];rfl,G.alloc hgs _⟩
     ·have hn':(t.len != 0)=false:=by simpa using hn
      cases hpt:p with
      | true =>
       have hk0:0<k:=by
        have:=hp.out;rw [hpt] at this;rcases hpl with h | h
        ·subst h;simp [ZcS] at this
        ·exact h
       have c3:=HP.out hk0
       have hq:(l[k - 1]'(by omega)).lit.size ≠ 0:=by
        have:=hp.out;rw [hpt] at this;simp [ZcS,List.getElem?_eq_getElem (show k - 1<l.length by omega)] at this;exact fun e=>this.2 (by simpa using e)
       have hqe:=ZW hq;generalize (l[k - 1]'(by omega)).lit=q at *;have hbw:b<wr.heap.size:=nT hb G.size;have c4:∀ o,(wr.alloc o).cell? ⟨b,off+(k - 1)*3,none⟩=some (.string q):=fun o=>(((bR wr.heap.size wr).alloc (nl _) o).cell (by exact hbw)).trans c3
       have hk0':decide ((0:Int)<(k:Int))=true:=by simp;omega
       have hk0'':decide (0<k)=true:=by simp;omega
       have hi1:(0:Int)<=(k:Int) - 1:=by omega
       have hi2:(k:Int) - 1<(l.length:Int):=by omega
       have he:Tk.err dict.size S.data.toList p t=1:=by
        unfold Tk.err;rw [if_pos h0,if_pos (Or.inr (Or.inr hpt))]
       clear hpl HQ;have HX:Hid (E=1/\Z=⟨#[]⟩):=HZ0.out _ _ (hrun.out.symm.trans (Tk.Zaf (by rw [he];omega))) (by rw [he];omega) |>.imp (fun h=>h.trans he) id
       go_wp2_with fail
       go_ret2
       exact ⟨by rw [HX.out.1,HX.out.2];rfl,G.alloc hgs _⟩
      | false =>
       rcases hpl with hk0 | hk0
       ·have hk0':decide ((0:Int)<(k:Int))=false:=by simp;omega
        have hk0'':decide (0<k)=false:=by simp;omega
        clear hk0;by_cases hbig:512<(S.size:Int) - dict.size+t.lit.size
        ·have hb':decide (512 - ((S.size:Int) - (dict.size:Int))<(t.lit.size:Int))=true:=by simp;omega
         have he:Tk.err dict.size S.data.toList p t=2:=by
          unfold Tk.err;rw [if_pos h0,if_neg (by simp [hf,hn,hpt]),if_pos (by rw [Zf];exact hbig)]
         clear HQ hbig;have HX:Hid (E=2/\Z=⟨#[]⟩):=HZ0.out _ _ (hrun.out.symm.trans (Tk.Zaf (by rw [he];omega))) (by rw [he];omega) |>.imp (fun h=>h.trans he) id
         go_wp2_with fail
         go_ret2
         exact ⟨by rw [HX.out.1,HX.out.2];rfl,G.alloc hgs _⟩
        ·have hb':decide (512 - ((S.size:Int) - (dict.size:Int))<(t.lit.size:Int))=false:=by simp;omega
         have hb2:(t.lit.size:Int)<=512:=by omega
         have Hle:Hid ((S.size:Int) - dict.size+t.lit.size<=512):=by show _<=_;omega
         have he:Tk.err dict.size S.data.toList p t=0:=by
          unfold Tk.err;rw [if_pos h0,if_neg (by simp [hf,hn,hpt]),if_neg (by rw [Zf];exact hbig)]
         have HX:Hid (Tk.run dict.size (S++t.lit).data.toList (decide (t.lit.size ≠ 0)) (l.drop (k+1))=R):=by
          show _=_;rw [<-hrun.out,Tk.Zai he];unfold Tk.make;rw [if_pos h0,Nm.appd]
         clear hbig he;go_wp2_with fail
         go_roundw
         case rel=>exact ⟨k+1,S++t.lit,_,by omega,by go_num,rfl,HX,HQ.out.symm,by rw [Nm.apps];omega,by have:=Hle.out;rw [Nm.apps];omega,G.alloc hgs _⟩
         case measure=>simp [intOf];omega
       ·have c3:=HP.out hk0
        have hq:(l[k - 1]'(by omega)).lit.size=0:=by
         have:=hp.out;rw [hpt] at this;simp [ZcS,List.getElem?_eq_getElem (show k - 1<l.length by omega),hk0] at this;simpa using this
        have hqe:=Zao hq;generalize (l[k - 1]'(by omega)).lit=q at *;have hbw:b<wr.heap.size:=nT hb G.size;have c4:∀ o,(wr.alloc o).cell? ⟨b,off+(k - 1)*3,none⟩=some (.string q):=fun o=>(((bR wr.heap.size wr).alloc (nl _) o).cell (by exact hbw)).trans c3
        have hk0':decide ((0:Int)<(k:Int))=true:=by simp;omega
        have hk0'':decide (0<k)=true:=by simp;omega
        have hi1:(0:Int)<=(k:Int) - 1:=by omega
        have hi2:(k:Int) - 1<(l.length:Int):=by omega
        by_cases hbig:512<(S.size:Int) - dict.size+t.lit.size
        ·have hb':decide (512 - ((S.size:Int) - (dict.size:Int))<(t.lit.size:Int))=true:=by simp;omega
         have he:Tk.err dict.size S.data.toList p t=2:=by
          unfold Tk.err;rw [if_pos h0,if_neg (by simp [hf,hn,hpt]),if_pos (by rw [Zf];exact hbig)]
         clear HQ hbig;have HX:Hid (E=2/\Z=⟨#[]⟩):=HZ0.out _ _ (hrun.out.symm.trans (Tk.Zaf (by rw [he];omega))) (by rw [he];omega) |>.imp (fun h=>h.trans he) id
         go_wp2_with fail
         go_ret2
         exact ⟨by rw [HX.out.1,HX.out.2];rfl,G.alloc hgs _⟩
        ·have hb':decide (512 - ((S.size:Int) - (dict.size:Int))<(t.lit.size:Int))=false:=by simp;omega
         have hb2:(t.lit.size:Int)<=512:=by omega
         have Hle:Hid ((S.size:Int) - dict.size+t.lit.size<=512):=by show _<=_;omega
         have he:Tk.err dict.size S.data.toList p t=0:=by
          unfold Tk.err;rw [if_pos h0,if_neg (by simp [hf,hn,hpt]),if_neg (by rw [Zf];exact hbig)]
         have HX:Hid (Tk.run dict.size (S++t.lit).data.toList (decide (t.lit.size ≠ 0)) (l.drop (k+1))=R):=by
          show _=_;rw [<-hrun.out,Tk.Zai he];unfold Tk.make;rw [if_pos h0,Nm.appd]
         clear hbig he;go_wp2_with fail
         go_roundw
         case rel=>exact ⟨k+1,S++t.lit,_,by omega,by go_num,rfl,HX,HQ.out.symm,by rw [Nm.apps];omega,by have:=Hle.out;rw [Nm.apps];omega,G.alloc hgs _⟩
         case measure=>simp [intOf];omega
   ·have h00:t.lit.size=0:=by omega
    have hE0:=Zao h00;have HL:Hid (S.data.toList.length=S.size):=Zf S;clear HP hp hpl;by_cases ha:3<=t.len/\t.len<=64
    ·obtain ⟨ha1,ha2⟩:=ha;by_cases hbf:1<=t.far/\t.far<=(S.size:Int)
     ·obtain ⟨hb1,hb2⟩:=hbf;by_cases hbig:512<(S.size:Int) - dict.size+t.len
      ·have hb':decide (512 - ((S.size:Int) - (dict.size:Int))<t.len)=true:=by simp;omega
       have he:Tk.err dict.size S.data.toList p t=2:=by
        unfold Tk.err;rw [if_neg h0,if_neg (by rw [Zf];simp;omega),if_pos (by rw [Zf];exact hbig)]
       clear HQ hbig;have HX:Hid (E=2/\Z=⟨#[]⟩):=HZ0.out _ _ (hrun.out.symm.trans (Tk.Zaf (by rw [he];omega))) (by rw [he];omega) |>.imp (fun h=>h.trans he) id
       go_wp2_with fail
       refine (ZU t.len 3 64 _ ha1 ha2).mono ?_;rintro e w9 ⟨rfl,rfl⟩;go_wp2_with fail
       refine (ZU t.far 1 S.size _ hb1 hb2).mono ?_;rintro e w9 ⟨rfl,rfl⟩;go_wp2_with fail
       go_ret2
       exact ⟨by rw [HX.out.1,HX.out.2];rfl,G.alloc hgs _⟩
      ·have hb':decide (512 - ((S.size:Int) - (dict.size:Int))<t.len)=false:=by simp;omega
       have he:Tk.err dict.size S.data.toList p t=0:=by
        unfold Tk.err;rw [if_neg h0,if_neg (by rw [Zf];simp;omega),if_neg (by rw [Zf];exact hbig)]
       obtain ⟨F,hF⟩:=Int.eq_ofNat_of_zero_le (a:=t.far) (by omega)
       have HX:Hid (Tk.run dict.size (Tk.copy F t.len.toNat S.data.toList) (decide (t.lit.size ≠ 0)) (l.drop (k+1))=R):=by
        show _=_;rw [<-hrun.out,Tk.Zai he];unfold Tk.make;rw [if_neg h0,hF,Int.toNat_natCast]
       have Hle:Hid ((S.size:Int) - dict.size+t.len<=512):=by show _<=_;omega
       have hc1:=ZU t.len 3 64;have hc2:=ZU t.far 1 S.size;rw [hF] at c1 hb1 hb2 hc2;clear hbig he hrun hF;go_wp2_with fail
       refine (hc1 _ ha1 ha2).mono ?_;rintro e w9 ⟨rfl,rfl⟩;go_wp2_with fail
       refine (hc2 _ hb1 hb2).mono ?_;rintro e w9 ⟨rfl,rfl⟩;clear hc1 hc2;go_wp2_with fail
       have hl0:0<=t.len:=by omega
       go_loop [6,9] (fun x i=>∃ (j:Nat) (X:ByteArray),(j:Int)<=t.len/\i=.int .i64 j/\x=.string X/\Hid (X.data.toList=Tk.copy F j S.data.toList)/\Hid (X.size=S.size+j)/\S.size<=X.size/\X.size<=S.size+64) (fun _ i=>64 - (intOf i).toNat)
       case atStart=>exact ⟨0,S,by omega,rfl,rfl,rfl,rfl,by omega,by omega⟩
       case round =>
        obtain ⟨j,X,hj,rfl,rfl,hX,hXs,hX1,hX2⟩:=hrel;have hXb:(X.size:Int)<=2000:=by omega
        by_cases hjl:(j:Int)<t.len
        ·have hjd:decide ((j:Int)<t.len)=true:=by simpa using hjl
         have hi1:(0:Int)<=(X.size:Int) - (F:Int):=by omega
         have hi2:(X.size:Int) - (F:Int)<=(X.size:Int) - (F:Int)+1:=by omega
         have hi3:(X.size:Int) - (F:Int)+1<=(X.size:Int):=by omega
         have HN:Hid ((X++X.extract (X.size - F) (X.size - F+1)).data.toList=Tk.copy F (j+1) S.data.toList):=by
          show _=_;rw [Nm.appd,Lib.extract_data,Tk.Zek,<-hX.out,Zf,show X.size - F+1 - (X.size - F)=1 by omega];have hlt2:X.size - F<X.data.toList.length:=by rw [Zf];omega
          rw [List.drop_eq_getElem_cons hlt2,List.take_succ_cons,List.take_zero,List.getD_eq_getElem?_getD,List.getElem?_eq_getElem hlt2];rfl
         have HNS:Hid ((X++X.extract (X.size - F) (X.size - F+1)).size=S.size+(j+1)):=by
          show _=_;rw [Nm.apps,<-Zf (X.extract _ _),Lib.extract_data,List.length_take,List.length_drop,Zf,hXs.out];omega
         go_wp2_with fail
         go_round
         case rel=>exact ⟨j+1,_,by omega,by go_num,rfl,HN,HNS,by rw [HNS.out];omega,by rw [HNS.out];omega⟩
         case measure=>simp [intOf];omega
        ·have hjd:decide ((j:Int)<t.len)=false:=by simp;omega
         have hjt:j=t.len.toNat:=by omega
         go_wp2_with fail
         go_roundw
         case rel =>
          have:=Hle.out;have:=hXs.out;refine ⟨k+1,X,_,by omega,by go_num,rfl,?_,HQ.out.symm,by omega,by omega,G.alloc hgs _⟩;rw [hX.out,hjt];exact HX
         case measure=>simp [intOf];omega
     ·have he:Tk.err dict.size S.data.toList p t=1:=by
       unfold Tk.err;rw [if_neg h0,if_pos (by rw [Zf];omega)]
      clear HQ;have HX:Hid (E=1/\Z=⟨#[]⟩):=HZ0.out _ _ (hrun.out.symm.trans (Tk.Zaf (by rw [he];omega))) (by rw [he];omega) |>.imp (fun h=>h.trans he) id
      go_wp2_with fail
      refine (ZU t.len 3 64 _ ha1 ha2).mono ?_;rintro e w9 ⟨rfl,rfl⟩;go_wp2_with fail
      refine (ZbB t.far 1 S.size _ hbf).mono ?_;rintro e w9 ⟨rfl,rfl⟩;go_wp2_with fail
      go_ret2
      exact ⟨by rw [HX.out.1,HX.out.2];rfl,G.alloc hgs _⟩
    ·have he:Tk.err dict.size S.data.toList p t=1:=by
      unfold Tk.err;rw [if_neg h0,if_pos (by rw [Zf];omega)]
     clear HQ;have HX:Hid (E=1/\Z=⟨#[]⟩):=HZ0.out _ _ (hrun.out.symm.trans (Tk.Zaf (by rw [he];omega))) (by rw [he];omega) |>.imp (fun h=>h.trans he) id
     go_wp2_with fail
     refine (ZbB t.len 3 64 _ ha).mono ?_;rintro e w9 ⟨rfl,rfl⟩;go_wp2_with fail
     go_ret2
     exact ⟨by rw [HX.out.1,HX.out.2];rfl,G.alloc hgs _⟩
  ·have hd1:decide ((k:Int)<(l.length:Int))=false:=by simp;omega
   have hd2:decide (k<l.length)=false:=by simp;omega
   have HX:Hid (E=0/\Z=⟨(S.data.toList.drop dict.size).toArray⟩):=by
    refine HZ1.out _ ?_;rw [<-hrun.out,List.drop_eq_nil_of_le (by omega)];rfl
   have HE:Hid (S.extract dict.size S.size=⟨(S.data.toList.drop dict.size).toArray⟩):=by
    show _=_;apply Nm.ZF;rw [Lib.extract_data,List.take_of_length_le];rw [List.length_drop,Zf];exact nl _
   have hi1:(dict.size:Int)<=(S.size:Int):=by omega
   clear hl hs hrun hp;go_wp2_with fail
   go_ret2
   exact ⟨by rw [HX.out.1,HX.out.2,<-HE.out];rfl,G⟩
theorem ZmZ (dict:ByteArray) (ad:Option Addr) (cap:Nat) (l:List Tk.T) (w:World) (hl:SlAt w ad l) (hs:Sane l) :
 Calls Tryz.prog 137 #[.string dict,.slice ad l.length cap] w fun e w'=>e=.returned (.tuple #[.string (Zas dict l),.int .i64 (Zl dict l)])/\Below w.heap.size w w':=by
 unfold Zas Zl;by_cases hd:256<dict.size
 ·rw [if_pos hd];simp only [ne_eq,Int.reduceEq,not_false_eq_true,if_true];exact Zpc dict ad _ cap w hd
 ·rw [if_neg hd];rcases hl with rfl | ⟨b,off,rfl,hb,ht⟩
  ·have e:(Tk.run dict.size dict.data.toList false [])=(0,dict.data.toList):=rfl;rw [e,if_neg (by simp),List.drop_eq_nil_of_le (by simp)];exact ZrX dict ad cap w (by omega)
  ·exact ZoG dict b off cap l w (by omega) hb ht hs
theorem w64 {x:Int} (h0:-9223372036854775808<=x) (h1:x<=9223372036854775807):wrap64 x=x:=by
 unfold wrap64;omega
theorem Zqu {s x:Int} (hs:0<=s/\s<=262144) (h0:0<x) (h1:x<=15):wrap64 (s+wrap64 (2 ^ (15 - x).toNat))=s+Cd.wt x:=by
 have h:=Cd.wt_b (x:=x) (by omega) h1;rw [<-Cd.ZeR h0,w64 (x:=Cd.wt x) (by omega) (by omega),w64 (by omega) (by omega)]
theorem ZZ (f:Nat->Int) (w:World) :
 Calls Tryz.prog 147 #[.agg (arr f)] w fun e w'=>e=.returned (.int .i64 (Cd.chk f))/\Below w.heap.size w w':=by
 have hat:=ZbW f;have hin:=Zb f;have hix:=ZiS f;have hbel:∀ o,Below w.heap.size w (w.alloc o):=fun o=>(bR _ _).alloc (nl _) o
 generalize hE:Cd.chk f=E at *;have HE:Hid (Cd.chk f=E):=hE;clear hE;generalize arr f=c at *;go_enter Tryz.func147,Tryz.ntmps147
 go_wp2_with (refine wpList_load_row rfl 127 _ rfl w.heap.size rfl 127 c (0,0) _ (heap_alloc_last w _) U127 rfl hin ?_)
 go_loop [3,7] (fun s i=>∃ k:Nat,k<=16/\i=.int .i64 k/\s=.int .i64 (Cd.sm f k)/\Hid (Cd.InR f 15 k)) (fun _ i=>16 - (intOf i).toNat)
 case atStart=>exact ⟨0,by omega,rfl,rfl,fun i h=>by omega⟩
 case round =>
  obtain ⟨k,hk,rfl,rfl,hR⟩:=hrel;have HS:Hid (0<=Cd.sm f k/\Cd.sm f k<=262144):=by have:=Cd.sm_b k hR.out;show _/\_;omega
  by_cases hlt:k<16
  ·have hi:=hix k hlt;have HX:Hid (Cd.sm f (k+1)=Cd.sm f k+Cd.wt (f k)):=rfl;have HB:Hid (f k<0\/15<f k->E=3):=fun h=>HE.out.symm.trans (Cd.ZlM hlt h)
   have HN:Hid (0<=f k->f k<=15->Cd.InR f 15 (k+1)):=fun h1 h2=>hR.out.succ h1 h2
   clear hat hix hin;generalize f k=x at *;generalize Cd.sm f k=s at *;have hk1:decide ((k:Int)<16)=true:=by simp;omega
   have hk2:decide (k<16)=true:=by simp;omega
   by_cases h1:x<0
   ·have d1:decide (x<0)=true:=by simp;omega
    have HE3:=HB.out (.inl h1);subst HE3;go_wp2_with fail
    go_ret
    exact ⟨rfl,hbel _⟩
   ·have d1:decide (x<0)=false:=by simp;omega
    by_cases h2:15<x
    ·have d2:decide (15<x)=true:=by simp;omega
     have HE3:=HB.out (.inr h2);subst HE3;go_wp2_with fail
     go_ret
     exact ⟨rfl,hbel _⟩
    ·have d2:decide (15<x)=false:=by simp;omega
     by_cases h3:0<x
     ·have d3:decide (0<x)=true:=by simp;omega
      go_wp2_with fail
      refine ⟨⟨k+1,by omega,by go_num,?_,HN.out (by omega) (by omega)⟩,by simp [intOf];omega⟩;rw [HX.out,Zqu HS.out h3 (by omega)]
     ·have d3:decide (0<x)=false:=by simp;omega
      go_wp2_with fail
      refine ⟨⟨k+1,by omega,by go_num,?_,HN.out (by omega) (by omega)⟩,by simp [intOf];omega⟩;rw [HX.out,Cd.Zdg (by omega)];simp
  ·obtain rfl:k=16:=by omega
   have HF:Hid (Cd.sm f 16=0\/32768<Cd.sm f 16->E=1):=fun h=>HE.out.symm.trans (Cd.Zka hR.out h)
   have HO:Hid (¬ (Cd.sm f 16=0\/32768<Cd.sm f 16)->E=0):=fun h=>HE.out.symm.trans (Cd.ZjQ hR.out h)
   clear hat hix hin;generalize Cd.sm f 16=s at *;by_cases h1:s=0
   ·have:=HF.out (.inl h1);subst h1 this;go_wp2_with fail
    go_ret
    exact ⟨rfl,hbel _⟩
   ·have d1:(s == 0)=false:=by simpa using h1
    by_cases h2:32768<s
    ·have d2:decide (32768<s)=true:=by simp;omega
     have:=HF.out (.inr h2);subst this;go_wp2_with fail
     go_ret
     exact ⟨rfl,hbel _⟩
    ·have d2:decide (32768<s)=false:=by simp;omega
     have:=HO.out (by omega);subst this;go_wp2_with fail
     go_ret
     exact ⟨rfl,hbel _⟩
theorem Zan (f:Nat->Int) (w:World) :
 Calls Tryz.prog 132 #[.agg (arr f)] w fun e w'=>e=.returned (.int .i64 (Cd.chk f))/\Below w.heap.size w w':=by
 have hat:=ZbW f;have hbel:∀ o,Below w.heap.size w (w.alloc o):=fun o=>(bR _ _).alloc (nl _) o
 generalize hE:Cd.chk f=E at *;have HE:Hid (Cd.chk f=E):=hE;clear hE;generalize arr f=c at *;go_enter Tryz.func132,Tryz.ntmps132
 go_wp2_with fail
 go_loop [3,4,5] (fun s u i=>∃ k:Nat,k<=16/\i=.int .i64 k/\s=.int .i64 (Cd.sm f k)/\u=.bool (Cd.used f k)/\Hid (Cd.InR f 15 k)) (fun _ _ i=>16 - (intOf i).toNat)
 case atStart=>exact ⟨0,by omega,rfl,rfl,rfl,fun i h=>by omega⟩
 case round =>
  obtain ⟨k,hk,rfl,rfl,rfl,hR⟩:=hrel;have HS:Hid (0<=Cd.sm f k/\Cd.sm f k<=262144):=by have:=Cd.sm_b k hR.out;show _/\_;omega
  by_cases hlt:k<16
  ·have hi:=hat k hlt;have HX:Hid (Cd.sm f (k+1)=Cd.sm f k+Cd.wt (f k)):=rfl;have HU:Hid (Cd.used f (k+1)=(Cd.used f k || decide (0<f k))):=rfl;have HB:Hid (f k<0\/15<f k->E=3):=fun h=>HE.out.symm.trans (Cd.ZlM hlt h)
   have HN:Hid (0<=f k->f k<=15->Cd.InR f 15 (k+1)):=fun h1 h2=>hR.out.succ h1 h2
   clear hat;generalize f k=x at *;generalize Cd.sm f k=s at *;generalize Cd.used f k=u at *;have hk1:decide ((k:Int)<16)=true:=by simp;omega
   have hk2:decide (k<16)=true:=by simp;omega
   by_cases h1:0<=x/\x<=15
   ·obtain ⟨h1,h2⟩:=h1;by_cases h3:0<x
    ·have d3:decide (0<x)=true:=by simp;omega
     go_wp2_with fail
     refine (ZU x 0 15 _ h1 h2).mono ?_;rintro e w9 ⟨rfl,rfl⟩;go_wp2_with fail
     refine ⟨⟨k+1,by omega,by go_num,?_,?_,HN.out (by omega) (by omega)⟩,by simp [intOf];omega⟩
     ·rw [HX.out,Zqu HS.out h3 (by omega)]
     ·rw [HU.out,d3,Bool.or_true]
    ·have d3:decide (0<x)=false:=by simp;omega
     go_wp2_with fail
     refine (ZU x 0 15 _ h1 h2).mono ?_;rintro e w9 ⟨rfl,rfl⟩;go_wp2_with fail
     refine ⟨⟨k+1,by omega,by go_num,?_,?_,HN.out (by omega) (by omega)⟩,by simp [intOf];omega⟩
     ·rw [HX.out,Cd.Zdg (by omega)];simp
     ·rw [HU.out,d3,Bool.or_false]
   ·have HE3:=HB.out (by omega);subst HE3;go_wp2_with fail
    refine (ZbB x 0 15 _ h1).mono ?_;rintro e w9 ⟨rfl,rfl⟩;go_wp2_with fail
    go_ret
    exact ⟨rfl,hbel _⟩
  ·obtain rfl:k=16:=by omega
   have HF:Hid (Cd.sm f 16=0\/32768<Cd.sm f 16->E=1):=fun h=>HE.out.symm.trans (Cd.Zka hR.out h)
   have HO:Hid (¬ (Cd.sm f 16=0\/32768<Cd.sm f 16)->E=0):=fun h=>HE.out.symm.trans (Cd.ZjQ hR.out h)
   have HV:Hid (Cd.sm f 16=0 ↔ Cd.used f 16=false):=Cd.ZrC 16 hR.out;clear hat;generalize Cd.sm f 16=s at *;generalize Cd.used f 16=u at *
   cases u with
   | false =>
    have:=HF.out (.inl (HV.out.2 rfl));subst this;go_wp2_with fail
    go_ret
    exact ⟨rfl,hbel _⟩
   | true =>
    by_cases h2:32768<s
    ·have d2:decide (32768<s)=true:=by simp;omega
     have:=HF.out (.inr h2);subst this;go_wp2_with fail
     go_ret
     exact ⟨rfl,hbel _⟩
    ·have d2:decide (32768<s)=false:=by simp;omega
     have:=HO.out (fun h=>h.elim (fun h=>by have:=HV.out.1 h;cases this) (fun h=>h2 h));subst this;go_wp2_with fail
     go_ret
     exact ⟨rfl,hbel _⟩
theorem Zcq (f:Nat->Int) (w:World) :
 Calls Tryz.prog 145 #[.agg (arr f)] w fun e w'=>e=.returned (.bool (decide (Cd.InR f 2048 16)))/\Below w.heap.size w w':=by
 have hin:=Zb f;have hix:=ZiS f;have hbel:∀ o,Below w.heap.size w (w.alloc o):=fun o=>(bR _ _).alloc (nl _) o
 generalize hE:decide (Cd.InR f 2048 16)=E at *;have HE:Hid (decide (Cd.InR f 2048 16)=E):=hE;clear hE;generalize arr f=c at *;go_enter Tryz.func145,Tryz.ntmps145
 go_wp2_with (refine wpList_load_row rfl 127 _ rfl w.heap.size rfl 127 c (0,0) _ (heap_alloc_last w _) U127 rfl hin ?_)
 go_loop [6] (fun i=>∃ k:Nat,k<=16/\i=.int .i64 k/\Hid (Cd.InR f 2048 k)) (fun i=>16 - (intOf i).toNat)
 case atStart=>exact ⟨0,by omega,rfl,fun i h=>by omega⟩
 case round =>
  obtain ⟨k,hk,rfl,hR⟩:=hrel;by_cases hlt:k<16
  ·have hi:=hix k hlt;have HB:Hid (f k<0\/2048<f k->E=false):=fun h=>HE.out.symm.trans (dF (Cd.Zic hlt h))
   have HN:Hid (0<=f k->f k<=2048->Cd.InR f 2048 (k+1)):=fun h1 h2=>hR.out.succ h1 h2
   clear hix hin;generalize f k=x at *;have hk1:decide ((k:Int)<16)=true:=by simp;omega
   have hk2:decide (k<16)=true:=by simp;omega
   by_cases h1:x<0
   ·have d1:decide (x<0)=true:=by simp;omega
    have HE3:=HB.out (.inl h1);subst HE3;go_wp2_with fail
    go_ret
    exact ⟨rfl,hbel _⟩
   ·have d1:decide (x<0)=false:=by simp;omega
    by_cases h2:2048<x
    ·have d2:decide (2048<x)=true:=by simp;omega
     have HE3:=HB.out (.inr h2);subst HE3;go_wp2_with fail
     go_ret
     exact ⟨rfl,hbel _⟩
    ·have d2:decide (2048<x)=false:=by simp;omega
     go_wp2_with fail
     exact ⟨⟨k+1,by omega,by go_num,HN.out (by omega) (by omega)⟩,by simp [intOf];omega⟩
  ·obtain rfl:k=16:=by omega
   have:=HE.out.symm.trans (zdT hR.out);subst this;clear hix hin;go_wp2_with fail
   go_ret
   exact ⟨rfl,hbel _⟩
theorem ZbV (f:Nat->Int) (w:World) :
 Calls Tryz.prog 168 #[.agg (arr f)] w fun e w'=>e=.returned (.bool (decide (Cd.InR f 2048 16)))/\Below w.heap.size w w':=by
 have hat:=ZbW f;have hbel:∀ o,Below w.heap.size w (w.alloc o):=fun o=>(bR _ _).alloc (nl _) o
 generalize hE:decide (Cd.InR f 2048 16)=E at *;have HE:Hid (decide (Cd.InR f 2048 16)=E):=hE;clear hE;generalize arr f=c at *;go_enter Tryz.func168,Tryz.ntmps168
 go_wp2_with fail
 go_loop [3] (fun i=>∃ k:Nat,k<=16/\i=.int .i64 k/\Hid (Cd.InR f 2048 k)) (fun i=>16 - (intOf i).toNat)
 case atStart=>exact ⟨0,by omega,rfl,fun i h=>by omega⟩
 case round =>
  obtain ⟨k,hk,rfl,hR⟩:=hrel;by_cases hlt:k<16
  ·have hi:=hat k hlt;have HB:Hid (f k<0\/2048<f k->E=false):=fun h=>HE.out.symm.trans (dF (Cd.Zic hlt h))
   have HN:Hid (0<=f k->f k<=2048->Cd.InR f 2048 (k+1)):=fun h1 h2=>hR.out.succ h1 h2
   clear hat;generalize f k=x at *;have hk1:decide ((k:Int)<16)=true:=by simp;omega
   have hk2:decide (k<16)=true:=by simp;omega
   by_cases h1:0<=x/\x<=2048
   ·obtain ⟨h1,h2⟩:=h1;go_wp2_with fail
    refine (ZU x 0 2048 _ h1 h2).mono ?_;rintro e w9 ⟨rfl,rfl⟩;go_wp2_with fail
    exact ⟨⟨k+1,by omega,by go_num,HN.out (by omega) (by omega)⟩,by simp [intOf];omega⟩
   ·have HE3:=HB.out (by omega);subst HE3;go_wp2_with fail
    refine (ZbB x 0 2048 _ h1).mono ?_;rintro e w9 ⟨rfl,rfl⟩;go_wp2_with fail
    go_ret
    exact ⟨rfl,hbel _⟩
  ·obtain rfl:k=16:=by omega
   have:=HE.out.symm.trans (zdT hR.out);subst this;clear hat;go_wp2_with fail
   go_ret
   exact ⟨rfl,hbel _⟩
end Go.Proofs.YtbjbjbpgmojcbacGreat
