/- A part of the proof: what it leans on. -/
import Derived.Test.YtbjbjbpgmojcbacGreatLk32
import Derived.Test.YtbjbjbpgmojcbacGreatLk30
set_option maxRecDepth 4000
set_option maxHeartbeats 4000000
namespace Go.Proofs.YtbjbjbpgmojcbacGreat
open Go.RowKit
theorem ZfH (s:ByteArray) (a:Nat):s.extract a a=⟨#[]⟩:=by
 apply Nm.ZF;rw [Tk.Zad];simp
theorem Zpr (s:ByteArray) (f a:Nat) (h:f<=a):s.extract f a++s.extract a (a+1)=s.extract f (a+1):=by
 apply Nm.ZF;rw [Nm.appd,Tk.Zad,Tk.Zad,Tk.Zad,show a+1 - a=1 by omega,show a+1 - f=(a - f)+1 by omega,List.take_add,List.drop_drop,show f+(a - f)=a by omega]
theorem Zlx (s:ByteArray) (f a:Nat) (ha:a<=s.size):(s.extract f a).size=a - f:=by simp;omega
theorem ZkG {l:List UInt8} {a m p:Nat} {b:Nat × Nat}:((List.range (p+1)).reverse).foldl (Tk.stp l a m) b=((List.range p).reverse).foldl (Tk.stp l a m) (Tk.stp l a m b p):=by
 rw [List.range_succ];simp
theorem ZaM (dict text:ByteArray) (w:World) (hd:dict.size<=256) (ht:text.size<=512) :
 Calls Tryz.prog 107 #[.string dict,.string text] w fun e w'=>Below w.heap.size w w'/\∃ ad cap,e=.returned (.slice ad (Tk.P (dict++text) dict.size dict.size).length cap)/\SlAt w' ad (Tk.P (dict++text) dict.size dict.size):=by
 have d1':(dict.size:Int)<=256:=by omega
 have d2':(text.size:Int)<=512:=by omega
 obtain ⟨i0,hi,hz0,hz1,hz2⟩:=info_parts ZcK;go_enter Tryz.func107,Tryz.ntmps107
 go_wp2_with fail
 have hsz:(dict++text).size=dict.size+text.size:=Nm.apps _ _;generalize hs0:dict++text=s at *;have hs1:s.size<=768:=by omega
 have hs2:(s.size:Int)<=768:=by omega
 have hds:dict.size<=s.size:=by omega
 have HS0:Hid (dict++text=s):=hs0;clear hsz hs0 d1' d2';generalize hd0:dict.size=d at *;have HD0:Hid (dict.size=d):=hd0;clear hd0;go_loopw [6,7,8,9,10,11,12] (fun o x i _ _ _ _ wr=>∃ (a f:Nat) (X:ByteArray) (l:List Tk.T),x=.string X/\Hid (X=s.extract f a)/\i=.int .i64 (a:Nat)/\wr.ownsRow w.heap.size 145 3 o l.length (tcs l)/\f<=a/\a<=s.size/\l.length<=f/\Hid (l++Tk.P s a f=Tk.P s d d)/\Below w.heap.size w wr) (fun _ _ i _ _ _ _ _=>s.size - (intOf i).toNat)
 case atStart=>exact ⟨d,d,⟨#[]⟩,[],rfl,(ZfH s d).symm,rfl,World.ownsRow_nil _ _ _ _,nl _,hds,by simp,rfl,bR _ _⟩
 case round =>
  obtain ⟨a,f,X,l,rfl,hX,rfl,hown,hfa,has,hlf,hP,G⟩:=hrel;have HO:Hid (wr.ownsRow w.heap.size 145 3 u6 l.length (tcs l)):=hown;clear hown;have hXs:X.size=a - f:=by rw [hX.out];exact Zlx s f a has
  have hgs:=G.size;by_cases hend:a<s.size
  ·have d3:decide ((a:Int)<(s.size:Int))=true:=by simp;omega
   have d3':decide (a<s.size)=true:=by simp;omega
   go_wp2_with fail
   obtain ⟨wo,rfl⟩:∃ wo:World,wo=wr:=⟨_,rfl⟩
   obtain ⟨bb,hbb⟩:∃ bb,Tk.bst s.data.toList a=bb:=⟨_,rfl⟩
   have HB:Hid (Tk.bst s.data.toList a=bb):=hbb;clear hbb;have hl:s.data.toList.length=s.size:=by simp
   have HM:Hid (Tk.most s.data.toList a=min 64 (s.size - a)):=by show _=_;unfold Tk.most;rw [hl]
   clear hl;go_loopw [9,10,11,12] (fun x y i _ wi=>∃ best far q:Nat,x=.int .i64 (best:Nat)/\y=.int .i64 (far:Nat)/\i=.int .i64 (q:Nat)/\1<=q/\q<=a+1/\far<=a/\best<=64/\Hid ((List.range (a+1 - q)).reverse.foldl (Tk.stp s.data.toList a (Tk.most s.data.toList a)) (far,best)=bb)/\Below wo.heap.size wo wi) (fun _ _ i _ _=>a+1 - (intOf i).toNat)
   case atStart=>exact ⟨0,0,1,rfl,rfl,rfl,by omega,by omega,by omega,by omega,HB.out,bR _ _⟩
   case round =>
    obtain ⟨best,far,q,rfl,rfl,rfl,hq1,hq2,hfar,hbest,hfold,Gi⟩:=hrel;by_cases hqa:q<=a
    ·have d4:decide ((q:Int)<=(a:Int))=true:=by simp;omega
     have d4':decide (q<=a)=true:=by simp;omega
     have hstep:(List.range (a+1 - q)).reverse.foldl (Tk.stp s.data.toList a (Tk.most s.data.toList a)) (far,best)=(List.range (a+1 - (q+1))).reverse.foldl (Tk.stp s.data.toList a (Tk.most s.data.toList a)) (Tk.stp s.data.toList a (Tk.most s.data.toList a) (far,best) (a - q)):=by
      rw [show a+1 - q=(a - q)+1 by omega,ZkG,show a+1 - (q+1)=a - q by omega]
     have hcm:=fun w=>Zpm s a q w (by omega) has hq1 hqa
     have hle:=Tk.ZjT s.data.toList (Tk.most s.data.toList a) (a - q) a;have hm64:Tk.most s.data.toList a<=64:=by rw [HM.out];omega
     rw [<-HM.out] at hcm
     obtain ⟨k,hk⟩:∃ k,Tk.alk s.data.toList (a - q) a (Tk.most s.data.toList a)=k:=⟨_,rfl⟩
     rw [hk] at hcm hle;by_cases hbig:best<k
     ·have HF:Hid ((List.range (a+1 - (q+1))).reverse.foldl (Tk.stp s.data.toList a (Tk.most s.data.toList a)) (q,k)=bb):=by
       show _=_;rw [<-hfold.out,hstep];unfold Tk.stp;rw [hk,if_pos (by exact hbig),show a - (a - q)=q by omega]
      have d5:decide ((best:Int)<(k:Int))=true:=by simp;omega
      have d5':decide (best<k)=true:=by simp;omega
      have hk64:k<=64:=by omega
      clear hstep hfold hk hle hm64;go_wp2_with (go_at_call 138;go_must (refine (hcm _).mono ?_;rintro e w1 ⟨rfl,hb1⟩))
      go_roundw
      case rel=>exact ⟨k,q,q+1,rfl,rfl,by go_num,by omega,by omega,by omega,hk64,HF,bch Gi hb1 (nl _)⟩
      case measure=>simp [intOf];omega
     ·have HF:Hid ((List.range (a+1 - (q+1))).reverse.foldl (Tk.stp s.data.toList a (Tk.most s.data.toList a)) (far,best)=bb):=by
       show _=_;rw [<-hfold.out,hstep];unfold Tk.stp;rw [hk,if_neg (by exact hbig)]
      have d5:decide ((best:Int)<(k:Int))=false:=by simp;omega
      have d5':decide (best<k)=false:=by simp;omega
      clear hstep hfold hk hle hm64;go_wp2_with (go_at_call 138;go_must (refine (hcm _).mono ?_;rintro e w1 ⟨rfl,hb1⟩))
      go_roundw
      case rel=>exact ⟨best,far,q+1,rfl,rfl,by go_num,by omega,by omega,hfar,hbest,HF,bch Gi hb1 (nl _)⟩
      case measure=>simp [intOf];omega
    ·have d4:decide ((q:Int)<=(a:Int))=false:=by simp;omega
     have d4':decide (q<=a)=false:=by simp;omega
     have hbb:bb=(far,best):=by
      rw [<-hfold.out,show a+1 - q=0 by omega];rfl
     subst hbb;have HOi:Hid (wr.ownsRow w.heap.size 145 3 u6 l.length (tcs l)):=Zj HO.out Gi;have GG:=bch G Gi (nl _);have hgw:=GG.size;clear hfold;by_cases h3:best<3
     ·have HN:Hid (l++Tk.P s (a+1) f=Tk.P s d d):=by
       show _=_;rw [<-hP.out,Tk.Zsx hend (by rw [HB.out];exact h3)]
      have HXN:Hid (X++s.extract a (a+1)=s.extract f (a+1)):=by
       show _=_;rw [hX.out];exact Zpr s f a hfa
      have d6:decide ((best:Int)<3)=true:=by simp;omega
      have d6':decide (best<3)=true:=by simp;omega
      have hsl:=ZdD s (a:Int) ((a:Int)+1) a (a+1) rfl (by omega) (by omega) (by omega);have hY:(s.extract a (a+1)).size=1:=by rw [Zlx s a (a+1) (by omega)];omega
      have hXb:X.size<=768:=by omega
      have hwr:IntKind.i64.wrap ((a:Int)+1)=(a:Int)+1:=IntWalk.i64_in _ ⟨by omega,by omega⟩;generalize s.extract a (a+1)=Y at *;have HXs:Hid (X.size=a - f):=hXs;clear hX hXs hP HM HB;go_wp2_with fail
      go_roundw
      case rel=>exact ⟨a+1,f,X++Y,l,rfl,HXN,by go_num,HOi.out,by omega,by omega,hlf,HN,GG⟩
      case measure=>simp [intOf];omega
     ·have hbo:=Tk.ZiY s.data.toList a;rw [HB.out,HM.out] at hbo;simp only at hbo;have han:a+best<=s.size:=by omega
      have HN:Hid ((l++Tk.lay s f a)++[⟨⟨#[]⟩,(far:Nat),(best:Nat)⟩]++Tk.P s (a+best) (a+best)=Tk.P s d d):=by
       show _=_;rw [<-hP.out,Tk.Znj hend (by rw [HB.out];exact h3),HB.out];simp
      have d6:decide ((best:Int)<3)=false:=by simp;omega
      have d6':decide (best<3)=false:=by simp;omega
      have hwr:IntKind.i64.wrap ((a:Int)+(best:Int))=(a:Int)+(best:Int):=IntWalk.i64_in _ ⟨by omega,by omega⟩;clear hbo hP HM HB;by_cases hf:f<a
      ·have hE:=ZW (s:=X) (by omega)
       have hlay:Tk.lay s f a=[⟨X,0,0⟩]:=by
        unfold Tk.lay;rw [if_pos hf,hX.out]
       rw [hlay] at HN;have HXs:Hid (X.size=a - f):=hXs;clear hX hXs hlay;have tok:True:=trivial;go_wp2_with (first | (at_builtin;have _t:=tok;go_must (refine wpList_append_own _ rfl _ _ 118 rfl w.heap.size 145 i0 (.agg #[.string ⟨#[]⟩,.int .i64 0,.int .i64 0]) 3 32 U118 hi hz0 hz1 hz2 rfl (by decide) _ _ _ rfl (HOi.out.alloc _) ⟨wr.heap.size,0,none⟩ 1 1 [.string X,.int .i64 0,.int .i64 0] rfl rfl (Zhr _ _ _ _ _) (one3 _ _ _ rfl rfl rfl) (ZaJ (by omega)) (by omega) (by simp;omega) ?_;intro v4 w4 hown4 hgrow4 _;clear _t tok;have hgs4:=hgrow4.size)) | (at_builtin;go_must (refine wpList_append_own _ rfl _ _ 118 rfl w.heap.size 145 i0 (.agg #[.string ⟨#[]⟩,.int .i64 0,.int .i64 0]) 3 32 U118 hi hz0 hz1 hz2 rfl (by decide) _ _ _ rfl (hown4.alloc _) ⟨w4.heap.size,0,none⟩ 1 1 [.string ⟨#[]⟩,.int .i64 (far:Nat),.int .i64 (best:Nat)] rfl rfl (Zhr _ _ _ _ _) (one3 _ _ _ rfl rfl rfl) (ZaJ (by omega)) (by omega) (by simp at hgs4 hgw |-;omega) ?_;intro v5 w5 hown5 hgrow5 _)))
       go_roundw
       case rel =>
        have t1:tcs (l++[⟨X,0,0⟩]++[⟨⟨#[]⟩,(far:Nat),(best:Nat)⟩])=tcs l++[.string X,.int .i64 0,.int .i64 0]++[.string ⟨#[]⟩,.int .i64 (far:Nat),.int .i64 (best:Nat)]:=by rw [Zal,Zal];rfl
        have B4:=(GG.alloc hgw _).grown hgrow4 (by simp;omega) (fun k hk=>(HOi.out.lt k hk).1);refine ⟨a+best,a+best,⟨#[]⟩,l++[⟨X,0,0⟩]++[⟨⟨#[]⟩,(far:Nat),(best:Nat)⟩],rfl,(ZfH s _).symm,by go_num,?_,nl _,by omega,by simp;omega,HN,(B4.alloc B4.size _).grown hgrow5 (by have:=B4.size;simp;omega) (fun k hk=>(hown4.lt k hk).1)⟩;rw [t1,List.length_append,List.length_append];exact hown5
       case measure=>simp [intOf];omega
      ·have hE:=Zao (s:=X) (by omega)
       have hlay:Tk.lay s f a=[]:=by
        unfold Tk.lay;rw [if_neg hf]
       rw [hlay,List.append_nil] at HN;have HX0:Hid (X.size=0):=by show _=_;omega
       have HXs:Hid (X.size=a - f):=hXs;clear hX hXs hlay;go_wp2_with (first | (at_builtin;go_must (refine wpList_append_own _ rfl _ _ 118 rfl w.heap.size 145 i0 (.agg #[.string ⟨#[]⟩,.int .i64 0,.int .i64 0]) 3 32 U118 hi hz0 hz1 hz2 rfl (by decide) _ _ _ rfl (HOi.out.alloc _) ⟨wr.heap.size,0,none⟩ 1 1 [.string ⟨#[]⟩,.int .i64 (far:Nat),.int .i64 (best:Nat)] rfl rfl (Zhr _ _ _ _ _) (one3 _ _ _ rfl rfl rfl) (ZaJ (by omega)) (by omega) (by simp at hgw |-;omega) ?_;intro v5 w5 hown5 hgrow5 _)))
       go_roundw
       case rel =>
        have t1:tcs (l++[⟨⟨#[]⟩,(far:Nat),(best:Nat)⟩])=tcs l++[.string ⟨#[]⟩,.int .i64 (far:Nat),.int .i64 (best:Nat)]:=by rw [Zal];rfl
        have hX0:X=⟨#[]⟩:=Nm.ZF (List.eq_nil_of_length_eq_zero (by simpa using HX0.out));refine ⟨a+best,a+best,X,l++[⟨⟨#[]⟩,(far:Nat),(best:Nat)⟩],rfl,by rw [hX0];exact (ZfH s _).symm,by go_num,?_,nl _,by omega,by simp;omega,HN,(GG.alloc hgw _).grown hgrow5 (by simp;omega) (fun k hk=>(HOi.out.lt k hk).1)⟩;rw [t1,List.length_append];exact hown5
       case measure=>simp [intOf];omega
  ·have d3:decide ((a:Int)<(s.size:Int))=false:=by simp;omega
   have d3':decide (a<s.size)=false:=by simp;omega
   have HE:Hid (l++Tk.lay s f a=Tk.P s d d):=by
    show _=_;rw [<-hP.out,Tk.ZsW (by omega)]
   have HOi:=HO;clear hP;by_cases hf:f<a
   ·have hE:=ZW (s:=X) (by omega)
    have hlay:Tk.lay s f a=[⟨X,0,0⟩]:=by
     unfold Tk.lay;rw [if_pos hf,hX.out]
    rw [hlay] at HE;have HXs:Hid (X.size=a - f):=hXs;clear hX hXs hlay;have tok:True:=trivial;go_wp2_with (first | (at_builtin;have _t:=tok;go_must (refine wpList_append_own _ rfl _ _ 118 rfl w.heap.size 145 i0 (.agg #[.string ⟨#[]⟩,.int .i64 0,.int .i64 0]) 3 32 U118 hi hz0 hz1 hz2 rfl (by decide) _ _ _ rfl (HOi.out.alloc _) ⟨wr.heap.size,0,none⟩ 1 1 [.string X,.int .i64 0,.int .i64 0] rfl rfl (Zhr _ _ _ _ _) (one3 _ _ _ rfl rfl rfl) (ZaJ (by omega)) (by omega) (by simp;omega) ?_;intro v4 w4 hown4 hgrow4 _;clear _t tok;have hgs4:=hgrow4.size)))
    go_ret
    have t1:tcs (l++[⟨X,0,0⟩])=tcs l++[.string X,.int .i64 0,.int .i64 0]:=by rw [Zal];rfl
    rw [<-t1] at hown4;obtain ⟨ad,cap,hv,hsl⟩:=ZbJ hown4;refine ⟨(G.alloc hgs _).grown hgrow4 (by simp;omega) (fun k hk=>(HO.out.lt k hk).1),ad,cap,?_,?_⟩
    ·rw [HS0.out,HD0.out,<-HE.out,<-hv];rfl
    ·rw [HS0.out,HD0.out,<-HE.out];exact hsl
   ·have hE:=Zao (s:=X) (by omega)
    have hlay:Tk.lay s f a=[]:=by
     unfold Tk.lay;rw [if_neg hf]
    rw [hlay,List.append_nil] at HE;have HXs:Hid (X.size=a - f):=hXs;clear hX hXs hlay;go_wp2_with fail
    go_ret
    obtain ⟨ad,cap,hv,hsl⟩:=ZbJ HO.out;refine ⟨G,ad,cap,?_,?_⟩
    ·rw [HS0.out,HD0.out,<-HE.out,<-hv];rfl
    ·rw [HS0.out,HD0.out,<-HE.out];exact hsl
set_option linter.unusedVariables false
namespace Bk
def bst (text s:ByteArray):ByteArray:=if s.size<text.size then (⟨#[1]⟩:ByteArray)++s else (⟨#[0]⟩:ByteArray)++text
theorem Zre (text s:ByteArray):mnK (bks text s) (bks text s).length=if s.size=0 then bst text s else if ((⟨#[2]⟩:ByteArray)++enc s).size<(bst text s).size then (⟨#[2]⟩:ByteArray)++enc s else bst text s:=by
 have e2:∀ r,mnK (((⟨#[0]⟩:ByteArray)++text) :: ((⟨#[1]⟩:ByteArray)++s) :: r) 2=bst text s:=by
  intro r;rw [mnK,ZmQ];show (if ((⟨#[1]⟩:ByteArray)++s).size<((⟨#[0]⟩:ByteArray)++text).size then (⟨#[1]⟩:ByteArray)++s else (⟨#[0]⟩:ByteArray)++text)=_;rw [Zs,Zs,bst];by_cases h:s.size<text.size
  ·rw [if_pos (by omega),if_pos h]
  ·rw [if_neg (by omega),if_neg h]
 unfold bks;by_cases h0:s.size=0
 ·rw [if_pos h0,if_pos h0];exact e2 []
 ·rw [if_neg h0,if_neg h0];show mnK _ 3=_;rw [mnK,e2];rfl
end Bk
theorem ZaN (dict text:ByteArray) (hd:dict.size<=256) (ht:text.size<=512) (ad:Option Addr) (cap:Nat) (w:World) (h:SlAt w ad (Tk.P (dict++text) dict.size dict.size)) :
 Calls Tryz.prog 106 #[.slice ad (Tk.P (dict++text) dict.size dict.size).length cap] w fun e w'=>e=.returned (.string (Bk.tk dict text))/\Below w.heap.size w w' :=
 Zhe ad cap _ w h (Zbo (Zbm dict text hd ht).1)
theorem Zlc (dict text s:ByteArray) (w:World) (hd:dict.size<=256) (ht:text.size<=512) (hS:Bk.tk dict text=s) (hs:s.size<=1024) (hp:s.size<text.size) (hz:s.size=0) :
 Calls Tryz.prog 73 #[.string dict,.string text] w fun e w'=>e=.returned (.string ((⟨#[1]⟩:ByteArray)++s))/\Below w.heap.size w w':=by
 have c1:=fun w=>ZaM dict text w hd ht
 have c2:=fun ad cap w h=>ZaN dict text hd ht ad cap w h
 rw [hS] at c2;have c3:=fun w=>ZaZ s w hs
 have z2:=Bk.Zbp s hs;have x0:=Bk.Zs 0 text;have x1:=Bk.Zs 1 s;have x2:=Bk.Zs 2 (Bk.enc s);generalize Tk.P (dict++text) dict.size dict.size=L at *;generalize (⟨#[2]⟩:ByteArray)++Bk.enc s=T at *;generalize Bk.enc s=En at *;have hT:T.size<=20000:=by omega
 have hT':(T.size:Int)<=20000:=by omega
 have hs':(s.size:Int)<=1024:=by omega
 have ht':(text.size:Int)<=512:=by omega
 have hw1:wrap64 ((s.size:Int)+1)=(s.size:Int)+1:=w64 (by omega) (by omega);have hp1:decide ((s.size:Int)+1<(text.size:Int)+1)=true:=by simp;omega
 have hp3:decide ((s.size:Int)<(text.size:Int))=true:=by simp;omega
 have hp2:decide ((s.size:Int)+1<1+(text.size:Int))=true:=by simp;omega
 have hp4:(s.size:Int)+1<1+(text.size:Int):=by omega
 have hs0:s=⟨#[]⟩:=by
  apply ByteArray.ext;exact Array.eq_empty_of_size_eq_zero hz
 have hem:s.toList.isEmpty=true:=by rw [hs0,ByteArray.toList_eq];rfl
 clear hs0 hS hz c3;clear hp hd ht hs x0 x1;go_enter Tryz.func73,Tryz.ntmps73
 go_wp2_with fail
 refine (c1 _).mono ?_;rintro e w1 ⟨G1,ad,cap,rfl,S1⟩;go_wp2_with fail
 refine (c2 ad cap _ S1).mono ?_;rintro e w2 ⟨rfl,G2⟩;have B2:=bch G1 G2 (nl _);clear G1 G2 S1 c1 c2;go_wp2_with fail
 go_ret
 exact ⟨rfl,B2⟩
theorem ZkZ (dict text s:ByteArray) (w:World) (hd:dict.size<=256) (ht:text.size<=512) (hS:Bk.tk dict text=s) (hs:s.size<=1024) (hp:¬ s.size<text.size) (hz:s.size=0) :
 Calls Tryz.prog 73 #[.string dict,.string text] w fun e w'=>e=.returned (.string ((⟨#[0]⟩:ByteArray)++text))/\Below w.heap.size w w':=by
 have c1:=fun w=>ZaM dict text w hd ht
 have c2:=fun ad cap w h=>ZaN dict text hd ht ad cap w h
 rw [hS] at c2;have c3:=fun w=>ZaZ s w hs
 have z2:=Bk.Zbp s hs;have x0:=Bk.Zs 0 text;have x1:=Bk.Zs 1 s;have x2:=Bk.Zs 2 (Bk.enc s);generalize Tk.P (dict++text) dict.size dict.size=L at *;generalize (⟨#[2]⟩:ByteArray)++Bk.enc s=T at *;generalize Bk.enc s=En at *;have hT:T.size<=20000:=by omega
 have hT':(T.size:Int)<=20000:=by omega
 have hs':(s.size:Int)<=1024:=by omega
 have ht':(text.size:Int)<=512:=by omega
 have hw1:wrap64 ((s.size:Int)+1)=(s.size:Int)+1:=w64 (by omega) (by omega);have hp1:decide ((s.size:Int)+1<(text.size:Int)+1)=false:=by simp;omega
 have hp3:decide ((s.size:Int)<(text.size:Int))=false:=by simp;omega
 have hp2:decide ((s.size:Int)+1<1+(text.size:Int))=false:=by simp;omega
 have hp4:1+(text.size:Int)<=(s.size:Int)+1:=by omega
 have hs0:s=⟨#[]⟩:=by
  apply ByteArray.ext;exact Array.eq_empty_of_size_eq_zero hz
 have hem:s.toList.isEmpty=true:=by rw [hs0,ByteArray.toList_eq];rfl
 clear hs0 hS hz c3;clear hp hd ht hs x0 x1;go_enter Tryz.func73,Tryz.ntmps73
 go_wp2_with fail
 refine (c1 _).mono ?_;rintro e w1 ⟨G1,ad,cap,rfl,S1⟩;go_wp2_with fail
 refine (c2 ad cap _ S1).mono ?_;rintro e w2 ⟨rfl,G2⟩;have B2:=bch G1 G2 (nl _);clear G1 G2 S1 c1 c2;go_wp2_with fail
 go_ret
 exact ⟨rfl,B2⟩
theorem ZkI (dict text s:ByteArray) (w:World) (hd:dict.size<=256) (ht:text.size<=512) (hS:Bk.tk dict text=s) (hs:s.size<=1024) (hp:s.size<text.size) (hz:s.size ≠ 0) (hr:(Bk.enc s).size+1<s.size+1) :
 Calls Tryz.prog 73 #[.string dict,.string text] w fun e w'=>e=.returned (.string ((⟨#[2]⟩:ByteArray)++Bk.enc s))/\Below w.heap.size w w':=by
 have c1:=fun w=>ZaM dict text w hd ht
 have c2:=fun ad cap w h=>ZaN dict text hd ht ad cap w h
 rw [hS] at c2;have c3:=fun w=>ZaZ s w hs
 have z2:=Bk.Zbp s hs;have x0:=Bk.Zs 0 text;have x1:=Bk.Zs 1 s;have x2:=Bk.Zs 2 (Bk.enc s);generalize Tk.P (dict++text) dict.size dict.size=L at *;generalize (⟨#[2]⟩:ByteArray)++Bk.enc s=T at *;generalize Bk.enc s=En at *;have hT:T.size<=20000:=by omega
 have hT':(T.size:Int)<=20000:=by omega
 have hs':(s.size:Int)<=1024:=by omega
 have ht':(text.size:Int)<=512:=by omega
 have hw1:wrap64 ((s.size:Int)+1)=(s.size:Int)+1:=w64 (by omega) (by omega);have hp1:decide ((s.size:Int)+1<(text.size:Int)+1)=true:=by simp;omega
 have hp3:decide ((s.size:Int)<(text.size:Int))=true:=by simp;omega
 have hp2:decide ((s.size:Int)+1<1+(text.size:Int))=true:=by simp;omega
 have hp4:(s.size:Int)+1<1+(text.size:Int):=by omega
 have hem:s.toList.isEmpty=false:=by
  rw [ByteArray.toList_eq]
  cases hq:s.data.toList with
  | nil=>exact absurd (by rw [<-Cd.Zf,hq];rfl) hz
  | cons a b=>rfl
 have hr1:decide ((T.size:Int)<1+(s.size:Int))=true:=by rw [x2];simp;omega
 have hr2:(T.size:Int)<1+(s.size:Int):=by omega
 clear hS hr hz x2 z2;clear hp hd ht hs x0 x1;go_enter Tryz.func73,Tryz.ntmps73
 go_wp2_with fail
 refine (c1 _).mono ?_;rintro e w1 ⟨G1,ad,cap,rfl,S1⟩;go_wp2_with fail
 refine (c2 ad cap _ S1).mono ?_;rintro e w2 ⟨rfl,G2⟩;have B2:=bch G1 G2 (nl _);clear G1 G2 S1 c1 c2;go_wp2_with fail
 refine (c3 _).mono ?_;rintro e w3 ⟨rfl,G3⟩;have B3:=bch B2 G3 (nl _);clear B2 G3 c3;go_wp2_with fail
 go_ret
 exact ⟨rfl,B3⟩
theorem Zkg (dict text s:ByteArray) (w:World) (hd:dict.size<=256) (ht:text.size<=512) (hS:Bk.tk dict text=s) (hs:s.size<=1024) (hp:s.size<text.size) (hz:s.size ≠ 0) (hr:¬ (Bk.enc s).size+1<s.size+1) :
 Calls Tryz.prog 73 #[.string dict,.string text] w fun e w'=>e=.returned (.string ((⟨#[1]⟩:ByteArray)++s))/\Below w.heap.size w w':=by
 have c1:=fun w=>ZaM dict text w hd ht
 have c2:=fun ad cap w h=>ZaN dict text hd ht ad cap w h
 rw [hS] at c2;have c3:=fun w=>ZaZ s w hs
 have z2:=Bk.Zbp s hs;have x0:=Bk.Zs 0 text;have x1:=Bk.Zs 1 s;have x2:=Bk.Zs 2 (Bk.enc s);generalize Tk.P (dict++text) dict.size dict.size=L at *;generalize (⟨#[2]⟩:ByteArray)++Bk.enc s=T at *;generalize Bk.enc s=En at *;have hT:T.size<=20000:=by omega
 have hT':(T.size:Int)<=20000:=by omega
 have hs':(s.size:Int)<=1024:=by omega
 have ht':(text.size:Int)<=512:=by omega
 have hw1:wrap64 ((s.size:Int)+1)=(s.size:Int)+1:=w64 (by omega) (by omega);have hp1:decide ((s.size:Int)+1<(text.size:Int)+1)=true:=by simp;omega
 have hp3:decide ((s.size:Int)<(text.size:Int))=true:=by simp;omega
 have hp2:decide ((s.size:Int)+1<1+(text.size:Int))=true:=by simp;omega
 have hp4:(s.size:Int)+1<1+(text.size:Int):=by omega
 have hem:s.toList.isEmpty=false:=by
  rw [ByteArray.toList_eq]
  cases hq:s.data.toList with
  | nil=>exact absurd (by rw [<-Cd.Zf,hq];rfl) hz
  | cons a b=>rfl
 have hr1:decide ((T.size:Int)<1+(s.size:Int))=false:=by rw [x2];simp;omega
 have hr2:1+(s.size:Int)<=(T.size:Int):=by omega
 clear hS hr hz x2 z2;clear hp hd ht hs x0 x1;go_enter Tryz.func73,Tryz.ntmps73
 go_wp2_with fail
 refine (c1 _).mono ?_;rintro e w1 ⟨G1,ad,cap,rfl,S1⟩;go_wp2_with fail
 refine (c2 ad cap _ S1).mono ?_;rintro e w2 ⟨rfl,G2⟩;have B2:=bch G1 G2 (nl _);clear G1 G2 S1 c1 c2;go_wp2_with fail
 refine (c3 _).mono ?_;rintro e w3 ⟨rfl,G3⟩;have B3:=bch B2 G3 (nl _);clear B2 G3 c3;go_wp2_with fail
 go_ret
 exact ⟨rfl,B3⟩
theorem Zlm (dict text s:ByteArray) (w:World) (hd:dict.size<=256) (ht:text.size<=512) (hS:Bk.tk dict text=s) (hs:s.size<=1024) (hp:¬ s.size<text.size) (hz:s.size ≠ 0) (hr:(Bk.enc s).size+1<text.size+1) :
 Calls Tryz.prog 73 #[.string dict,.string text] w fun e w'=>e=.returned (.string ((⟨#[2]⟩:ByteArray)++Bk.enc s))/\Below w.heap.size w w':=by
 have c1:=fun w=>ZaM dict text w hd ht
 have c2:=fun ad cap w h=>ZaN dict text hd ht ad cap w h
 rw [hS] at c2;have c3:=fun w=>ZaZ s w hs
 have z2:=Bk.Zbp s hs;have x0:=Bk.Zs 0 text;have x1:=Bk.Zs 1 s;have x2:=Bk.Zs 2 (Bk.enc s);generalize Tk.P (dict++text) dict.size dict.size=L at *;generalize (⟨#[2]⟩:ByteArray)++Bk.enc s=T at *;generalize Bk.enc s=En at *;have hT:T.size<=20000:=by omega
 have hT':(T.size:Int)<=20000:=by omega
 have hs':(s.size:Int)<=1024:=by omega
 have ht':(text.size:Int)<=512:=by omega
 have hw1:wrap64 ((s.size:Int)+1)=(s.size:Int)+1:=w64 (by omega) (by omega);have hp1:decide ((s.size:Int)+1<(text.size:Int)+1)=false:=by simp;omega
 have hp3:decide ((s.size:Int)<(text.size:Int))=false:=by simp;omega
 have hp2:decide ((s.size:Int)+1<1+(text.size:Int))=false:=by simp;omega
 have hp4:1+(text.size:Int)<=(s.size:Int)+1:=by omega
 have hem:s.toList.isEmpty=false:=by
  rw [ByteArray.toList_eq]
  cases hq:s.data.toList with
  | nil=>exact absurd (by rw [<-Cd.Zf,hq];rfl) hz
  | cons a b=>rfl
 have hr1:decide ((T.size:Int)<1+(text.size:Int))=true:=by rw [x2];simp;omega
 have hr2:(T.size:Int)<1+(text.size:Int):=by omega
 clear hS hr hz x2 z2;clear hp hd ht hs x0 x1;go_enter Tryz.func73,Tryz.ntmps73
 go_wp2_with fail
 refine (c1 _).mono ?_;rintro e w1 ⟨G1,ad,cap,rfl,S1⟩;go_wp2_with fail
 refine (c2 ad cap _ S1).mono ?_;rintro e w2 ⟨rfl,G2⟩;have B2:=bch G1 G2 (nl _);clear G1 G2 S1 c1 c2;go_wp2_with fail
 refine (c3 _).mono ?_;rintro e w3 ⟨rfl,G3⟩;have B3:=bch B2 G3 (nl _);clear B2 G3 c3;go_wp2_with fail
 go_ret
 exact ⟨rfl,B3⟩
theorem Zlq (dict text s:ByteArray) (w:World) (hd:dict.size<=256) (ht:text.size<=512) (hS:Bk.tk dict text=s) (hs:s.size<=1024) (hp:¬ s.size<text.size) (hz:s.size ≠ 0) (hr:¬ (Bk.enc s).size+1<text.size+1) :
 Calls Tryz.prog 73 #[.string dict,.string text] w fun e w'=>e=.returned (.string ((⟨#[0]⟩:ByteArray)++text))/\Below w.heap.size w w':=by
 have c1:=fun w=>ZaM dict text w hd ht
 have c2:=fun ad cap w h=>ZaN dict text hd ht ad cap w h
 rw [hS] at c2;have c3:=fun w=>ZaZ s w hs
 have z2:=Bk.Zbp s hs;have x0:=Bk.Zs 0 text;have x1:=Bk.Zs 1 s;have x2:=Bk.Zs 2 (Bk.enc s);generalize Tk.P (dict++text) dict.size dict.size=L at *;generalize (⟨#[2]⟩:ByteArray)++Bk.enc s=T at *;generalize Bk.enc s=En at *;have hT:T.size<=20000:=by omega
 have hT':(T.size:Int)<=20000:=by omega
 have hs':(s.size:Int)<=1024:=by omega
 have ht':(text.size:Int)<=512:=by omega
 have hw1:wrap64 ((s.size:Int)+1)=(s.size:Int)+1:=w64 (by omega) (by omega);have hp1:decide ((s.size:Int)+1<(text.size:Int)+1)=false:=by simp;omega
 have hp3:decide ((s.size:Int)<(text.size:Int))=false:=by simp;omega
 have hp2:decide ((s.size:Int)+1<1+(text.size:Int))=false:=by simp;omega
 have hp4:1+(text.size:Int)<=(s.size:Int)+1:=by omega
 have hem:s.toList.isEmpty=false:=by
  rw [ByteArray.toList_eq]
  cases hq:s.data.toList with
  | nil=>exact absurd (by rw [<-Cd.Zf,hq];rfl) hz
  | cons a b=>rfl
 have hr1:decide ((T.size:Int)<1+(text.size:Int))=false:=by rw [x2];simp;omega
 have hr2:1+(text.size:Int)<=(T.size:Int):=by omega
 clear hS hr hz x2 z2;clear hp hd ht hs x0 x1;go_enter Tryz.func73,Tryz.ntmps73
 go_wp2_with fail
 refine (c1 _).mono ?_;rintro e w1 ⟨G1,ad,cap,rfl,S1⟩;go_wp2_with fail
 refine (c2 ad cap _ S1).mono ?_;rintro e w2 ⟨rfl,G2⟩;have B2:=bch G1 G2 (nl _);clear G1 G2 S1 c1 c2;go_wp2_with fail
 refine (c3 _).mono ?_;rintro e w3 ⟨rfl,G3⟩;have B3:=bch B2 G3 (nl _);clear B2 G3 c3;go_wp2_with fail
 go_ret
 exact ⟨rfl,B3⟩
theorem Zne (dict text:ByteArray) (w:World) (hd:dict.size<=256) (ht:text.size<=512) :
 Calls Tryz.prog 73 #[.string dict,.string text] w fun e w'=>e=.returned (.string (Bk.pak dict text).1)/\Below w.heap.size w w':=by
 have e:(Bk.pak dict text).1=Bk.mnK (Bk.bks text (Bk.tk dict text)) (Bk.bks text (Bk.tk dict text)).length:=by rw [Bk.pak,if_neg (by omega)]
 rw [e,Bk.Zre];have hs:=Bk.ZhE hd ht;have h1:=Bk.Zs 1 (Bk.tk dict text);have h0:=Bk.Zs 0 text;have h2:=Bk.Zs 2 (Bk.enc (Bk.tk dict text));unfold Bk.bst;by_cases hp:(Bk.tk dict text).size<text.size
 ·rw [if_pos hp];by_cases hz:(Bk.tk dict text).size=0
  ·rw [if_pos hz];exact Zlc dict text _ w hd ht rfl hs hp hz
  ·rw [if_neg hz];by_cases hr:(Bk.enc (Bk.tk dict text)).size+1<(Bk.tk dict text).size+1
   ·rw [if_pos (by rw [h1,h2];exact hr)];exact ZkI dict text _ w hd ht rfl hs hp hz hr
   ·rw [if_neg (by rw [h1,h2];exact hr)];exact Zkg dict text _ w hd ht rfl hs hp hz hr
 ·rw [if_neg hp];by_cases hz:(Bk.tk dict text).size=0
  ·rw [if_pos hz];exact ZkZ dict text _ w hd ht rfl hs hp hz
  ·rw [if_neg hz];by_cases hr:(Bk.enc (Bk.tk dict text)).size+1<text.size+1
   ·rw [if_pos (by rw [h0,h2];exact hr)];exact Zlm dict text _ w hd ht rfl hs hp hz hr
   ·rw [if_neg (by rw [h0,h2];exact hr)];exact Zlq dict text _ w hd ht rfl hs hp hz hr
theorem Zfa (ad af:Option Addr) (cd cf:Nat) (a:Ar.A) (name text:ByteArray) (dict:Int) (w:World) (h:TxSl w ad a.dicts) (hl:a.dicts.length<=8796093022208) (hh:Ar.has a.dicts dict=true) (hd:(Ar.dct a.dicts dict).size<=256) (ht:text.size<=512) :
 Calls Tryz.prog 39 #[av ad cd af cf a,.string name,.string text,.int .i64 dict] w fun e w'=>e=.returned (fv (Ar.pk a.dicts name text dict))/\Below w.heap.size w w':=by
 have hb:=fun o p=>((bR w.heap.size w).alloc (nl _) o).alloc (by simp) p
 have C1:Hid (∀ w',Below w.heap.size w w'->Calls Tryz.prog 71 #[av ad cd af cf a,.int .i64 dict] w' fun e w2=>e=.returned (.string (Ar.dct a.dicts dict))/\Below w'.heap.size w' w2):=fun w' h9=>ZcX ad af cd cf a dict w' (h.below h9) hl hh
 have C2:Hid (∀ w',Calls Tryz.prog 73 #[.string (Ar.dct a.dicts dict),.string text] w' fun e w2=>e=.returned (.string (Bk.pak (Ar.dct a.dicts dict) text).1)/\Below w'.heap.size w' w2):=fun w'=>Zne _ _ w' hd ht
 have C3:Hid (∀ w',Calls Tryz.prog 72 #[.string text] w' fun e w2=>e=.returned (.int .i64 (Ar.sm text))/\Below w'.heap.size w' w2):=fun w'=>(Zej text w' (by omega)).mono (by rintro e w2 ⟨rfl,rfl⟩;exact ⟨rfl,bR _ _⟩)
 unfold fv Ar.pk;simp only;unfold av at C1 |-
 generalize (Bk.pak (Ar.dct a.dicts dict) text).1=K at *;generalize Ar.dct a.dicts dict=X at *;generalize Ar.sm text=M at *;clear h hh hd;generalize a.dicts.length=D at *;generalize a.files.length=N at *;have hti:(text.size:Int)<=512:=by omega
 go_enter Tryz.func39,Tryz.ntmps39
 go_wp2_with fail
 obtain ⟨kA,kF⟩:=box2 w #[.slice ad D cd,.slice af N cf] #[.string ⟨#[]⟩,.int .i64 0,.int .i64 0,.int .i64 0,.string ⟨#[]⟩] 33 47;have fz:∀ i,((w.alloc (.cells #[.slice ad D cd,.slice af N cf] 33 (0,0))).alloc (.cells #[.string ⟨#[]⟩,.int .i64 0,.int .i64 0,.int .i64 0,.string ⟨#[]⟩] 47 (0,0))).frozen? ⟨w.heap.size+1,i,none⟩=false:=fun i=>fN _ _ _ _ (by simp)
 have B1:=hb (.cells #[.slice ad D cd,.slice af N cf] 33 (0,0)) (.cells #[.string ⟨#[]⟩,.int .i64 0,.int .i64 0,.int .i64 0,.string ⟨#[]⟩] 47 (0,0));have hz:w.heap.size+1<((w.alloc (.cells #[.slice ad D cd,.slice af N cf] 33 (0,0))).alloc (.cells #[.string ⟨#[]⟩,.int .i64 0,.int .i64 0,.int .i64 0,.string ⟨#[]⟩] 47 (0,0))).heap.size:=by simp
 generalize ((w.alloc (.cells #[.slice ad D cd,.slice af N cf] 33 (0,0))).alloc (.cells #[.string ⟨#[]⟩,.int .i64 0,.int .i64 0,.int .i64 0,.string ⟨#[]⟩] 47 (0,0)))=w1 at *;have hz0:w.heap.size<w1.heap.size:=by omega
 have HS:Hid (∀ w',Below w1.heap.size w1 w'->w'.cell? ⟨w.heap.size,0,none⟩=some (.slice ad D cd)/\w'.cell? ⟨w.heap.size,1,none⟩=some (.slice af N cf)):=fun w' h9=>⟨(h9.cell (p:=⟨w.heap.size,0,none⟩) hz0).trans (kA 0),(h9.cell (p:=⟨w.heap.size,1,none⟩) hz0).trans (kA 1)⟩
 have HK:Hid (∀ w',Below w1.heap.size w1 w'->w'.cell? ⟨w.heap.size+1,0,none⟩=some (.string ⟨#[]⟩)/\w'.cell? ⟨w.heap.size+1,1,none⟩=some (.int .i64 0)/\w'.cell? ⟨w.heap.size+1,2,none⟩=some (.int .i64 0)/\w'.cell? ⟨w.heap.size+1,3,none⟩=some (.int .i64 0)/\w'.cell? ⟨w.heap.size+1,4,none⟩=some (.string ⟨#[]⟩)
  ∧ w'.frozen? ⟨w.heap.size+1,0,none⟩=false/\w'.frozen? ⟨w.heap.size+1,1,none⟩=false/\w'.frozen? ⟨w.heap.size+1,2,none⟩=false/\w'.frozen? ⟨w.heap.size+1,3,none⟩=false/\w'.frozen? ⟨w.heap.size+1,4,none⟩=false):=fun w' h9 =>
  ⟨(h9.cell (p:=⟨w.heap.size+1,0,none⟩) hz).trans (kF 0),(h9.cell (p:=⟨w.heap.size+1,1,none⟩) hz).trans (kF 1),(h9.cell (p:=⟨w.heap.size+1,2,none⟩) hz).trans (kF 2),(h9.cell (p:=⟨w.heap.size+1,3,none⟩) hz).trans (kF 3),(h9.cell (p:=⟨w.heap.size+1,4,none⟩) hz).trans (kF 4),
   (h9.frozen (p:=⟨w.heap.size+1,0,none⟩) hz).trans (fz 0),(h9.frozen (p:=⟨w.heap.size+1,1,none⟩) hz).trans (fz 1),(h9.frozen (p:=⟨w.heap.size+1,2,none⟩) hz).trans (fz 2),(h9.frozen (p:=⟨w.heap.size+1,3,none⟩) hz).trans (fz 3),(h9.frozen (p:=⟨w.heap.size+1,4,none⟩) hz).trans (fz 4)⟩
 have HS5:Hid (∀ w',Below w1.heap.size w1 w'->(fun w9=>w9.cell? ⟨w.heap.size,0,none⟩=some (.slice ad D cd)/\w9.cell? ⟨w.heap.size,1,none⟩=some (.slice af N cf)) (w5s w' (w.heap.size+1) 0 (.string name) (.int .i64 dict) (.int .i64 (text.size:Int)) (.int .i64 M) (.string K))):=fun w' h9=>by
  obtain ⟨e0,e1⟩:=HS.out w' h9;have gr:=ZcN w' (w.heap.size+1) 0 (.string name) (.int .i64 dict) (.int .i64 (text.size:Int)) (.int .i64 M) (.string K);exact ⟨Zd gr e0 (by simp),Zd gr e1 (by simp)⟩
 have C1':Hid (∀ w',Below w1.heap.size w1 w'->Calls Tryz.prog 71 #[.agg #[.slice ad D cd,.slice af N cf],.int .i64 dict] w' fun e w2=>e=.returned (.string X)/\Below w'.heap.size w' w2):=fun w' h9=>C1.out w' (bch B1 h9 (nl _))
 clear kA kF fz C1;unfold w5s at HS5;simp only [Nat.zero_add] at HS5;go_region_held3 (fun w'=>w'.cell? ⟨w.heap.size,0,none⟩=some (.slice ad D cd)/\w'.cell? ⟨w.heap.size,1,none⟩=some (.slice af N cf))
  (first | (exact HS.out _ ((bR _ _).drew)) | (exact HS.out _ B4) | (exact HS.out _ B5) | (exact HS.out _ B6) | (exact HS5.out _ B6))
  (first
   | (go_at_call 72;refine (C3.out _).mono ?_;rintro e w4 ⟨rfl,G4⟩;have B4:Below w1.heap.size w1 w4:=bch ((bR _ _).drew) G4 (nl _))
   | (go_at_call 71;refine (C1'.out _ B4).mono ?_;rintro e w5 ⟨rfl,G5⟩;have B5:Below w1.heap.size w1 w5:=bch B4 G5 (nl _))
   | (go_at_call 73;refine (C2.out _).mono ?_;rintro e w6 ⟨rfl,G6⟩;have B6:Below w1.heap.size w1 w6:=bch B5 G6 (nl _);obtain ⟨l0,l1,l2,l3,l4,lf0,lf1,lf2,lf3,lf4⟩:=HK.out w6 B6))
 all_goals
  obtain ⟨k0,k1,k2,k3,k4⟩:=set5 (o:=0) (.string name) (.int .i64 dict) (.int .i64 (text.size:Int)) (.int .i64 M) (.string K) l0 l1 l2 l3 l4;have B7:=ZfT (bch B1 B6 (nl _)) (w.heap.size+1) 0 (.string name) (.int .i64 dict) (.int .i64 (text.size:Int)) (.int .i64 M) (.string K) (by omega);unfold w5s at k0 k1 k2 k3 k4 B7;simp only [Nat.zero_add] at k0 k1 k2 k3 k4 B7;generalize (((((w6.setCell ⟨w.heap.size+1,0,none⟩ (.string name)).setCell ⟨w.heap.size+1,1,none⟩ (.int .i64 dict)).setCell ⟨w.heap.size+1,2,none⟩ (.int .i64 (text.size:Int))).setCell ⟨w.heap.size+1,3,none⟩ (.int .i64 M)).setCell ⟨w.heap.size+1,4,none⟩ (.string K))=wz at *;clear l0 l1 l2 l3 l4 lf0 lf1 lf2 lf3 lf4 HS5 HS HK B6 B5 B4 G4 G5 G6;go_wp2_with fail
  exact bodyPost_ret (v:=.agg #[.string name,.int .i64 dict,.int .i64 (text.size:Int),.int .i64 M,.string K]) (by simp [results,Tryz.results39,go_sem,k0,k1,k2,k3,k4]) rfl ⟨rfl,B7⟩
end Go.Proofs.YtbjbjbpgmojcbacGreat
