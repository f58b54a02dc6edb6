/- A part of the proof: what it leans on. -/
import Derived.Test.YtbjbjbpgmojcbabGreatLsBook14
set_option maxRecDepth 8000
set_option maxHeartbeats 8000000
namespace Go.Proofs.YtbjbjbpgmojcbabGreat
open Go.RowKit
theorem Zfy (s:ByteArray) (a:Nat):s.extract a a=⟨#[]⟩:=by
 apply Nm.ZG;rw [Tk.Zab];simp
theorem Zqp (s:ByteArray) (f a:Nat) (h:f<=a):s.extract f a++s.extract a (a+1)=s.extract f (a+1):=by
 apply Nm.ZG;rw [Nm.appd,Tk.Zab,Tk.Zab,Tk.Zab,show a+1 - a=1 by omega,show a+1 - f=(a - f)+1 by omega,List.take_add,List.drop_drop,show f+(a - f)=a by omega]
theorem ZnO (s:ByteArray) (f a:Nat) (ha:a<=s.size):(s.extract f a).size=a - f:=by simp;omega
theorem Zlt {l:List UInt8} {a m p:Nat} {b:Nat × Nat}:((List.range (p+1)).reverse).foldl (Tk.stp l a m) b=((List.range p).reverse).foldl (Tk.stp l a m) (Tk.stp l a m b p):=by
 rw [List.range_succ];simp
theorem ZaQ (dict text:ByteArray) (w:World) (hd:dict.size<=256) (ht:text.size<=512) :
 Calls Tryz.prog 134 #[.string dict,.string text] w fun e w'=>Below w.heap.size w w'/\∃ ad cap,e=.returned (.slice ad (Tk.P (dict++text) dict.size dict.size).length cap)/\SlAt w' ad (Tk.P (dict++text) dict.size dict.size):=by
 have d1':(dict.size:Int)<=256:=by omega
 have d2':(text.size:Int)<=512:=by omega
 obtain ⟨i0,hi,hz0,hz1,hz2⟩:=info_parts ZcG;go_enter Tryz.func134,Tryz.ntmps134
 go_wp2_with fail
 have hsz:(dict++text).size=dict.size+text.size:=Nm.apps _ _;generalize hs0:dict++text=s at *;have hs1:s.size<=768:=by omega
 have hs2:(s.size:Int)<=768:=by omega
 have hds:dict.size<=s.size:=by omega
 have HS0:Hid (dict++text=s):=hs0;clear hsz hs0 d1' d2';generalize hd0:dict.size=d at *;have HD0:Hid (dict.size=d):=hd0;clear hd0;go_loopw [6,7,8,9,10,11,12] (fun o x i _ _ _ _ wr=>∃ (a f:Nat) (X:ByteArray) (l:List Tk.T),x=.string X/\Hid (X=s.extract f a)/\i=.int .i64 (a:Nat)/\wr.ownsRow w.heap.size 165 3 o l.length (tcs l)/\f<=a/\a<=s.size/\l.length<=f/\Hid (l++Tk.P s a f=Tk.P s d d)/\Below w.heap.size w wr) (fun _ _ i _ _ _ _ _=>s.size - (intOf i).toNat)
 case atStart=>exact ⟨d,d,⟨#[]⟩,[],rfl,(Zfy s d).symm,rfl,World.ownsRow_nil _ _ _ _,nl _,hds,by simp,rfl,bR _ _⟩
 case round =>
  obtain ⟨a,f,X,l,rfl,hX,rfl,hown,hfa,has,hlf,hP,G⟩:=hrel;have HO:Hid (wr.ownsRow w.heap.size 165 3 u6 l.length (tcs l)):=hown;clear hown;have hXs:X.size=a - f:=by rw [hX.out];exact ZnO s f a has
  have hgs:=G.size;by_cases hend:a<s.size
  ·have d3:decide ((a:Int)<(s.size:Int))=true:=by simp;omega
   have d3':decide (a<s.size)=true:=by simp;omega
   go_wp2_with fail
   obtain ⟨wo,rfl⟩:∃ wo:World,wo=wr:=⟨_,rfl⟩
   obtain ⟨bb,hbb⟩:∃ bb,Tk.bst s.data.toList a=bb:=⟨_,rfl⟩
   have HB:Hid (Tk.bst s.data.toList a=bb):=hbb;clear hbb;have hl:s.data.toList.length=s.size:=by simp
   have HM:Hid (Tk.most s.data.toList a=min 64 (s.size - a)):=by show _=_;unfold Tk.most;rw [hl]
   clear hl;go_loopw [9,10,11,12] (fun x y i _ wi=>∃ best far q:Nat,x=.int .i64 (best:Nat)/\y=.int .i64 (far:Nat)/\i=.int .i64 (q:Nat)/\1<=q/\q<=a+1/\far<=a/\best<=64/\Hid ((List.range (a+1 - q)).reverse.foldl (Tk.stp s.data.toList a (Tk.most s.data.toList a)) (far,best)=bb)/\Below wo.heap.size wo wi) (fun _ _ i _ _=>a+1 - (intOf i).toNat)
   case atStart=>exact ⟨0,0,1,rfl,rfl,rfl,by omega,by omega,by omega,by omega,HB.out,bR _ _⟩
   case round =>
    obtain ⟨best,far,q,rfl,rfl,rfl,hq1,hq2,hfar,hbest,hfold,Gi⟩:=hrel;by_cases hqa:q<=a
    ·have d4:decide ((q:Int)<=(a:Int))=true:=by simp;omega
     have d4':decide (q<=a)=true:=by simp;omega
     have hstep:(List.range (a+1 - q)).reverse.foldl (Tk.stp s.data.toList a (Tk.most s.data.toList a)) (far,best)=(List.range (a+1 - (q+1))).reverse.foldl (Tk.stp s.data.toList a (Tk.most s.data.toList a)) (Tk.stp s.data.toList a (Tk.most s.data.toList a) (far,best) (a - q)):=by
      rw [show a+1 - q=(a - q)+1 by omega,Zlt,show a+1 - (q+1)=a - q by omega]
     have hcm:=fun w=>ZpS s a q w (by omega) has hq1 hqa
     have hle:=Tk.ZjE s.data.toList (Tk.most s.data.toList a) (a - q) a;have hm64:Tk.most s.data.toList a<=64:=by rw [HM.out];omega
     rw [<-HM.out] at hcm
     obtain ⟨k,hk⟩:∃ k,Tk.alk s.data.toList (a - q) a (Tk.most s.data.toList a)=k:=⟨_,rfl⟩
     rw [hk] at hcm hle;by_cases hbig:best<k
     ·have HF:Hid ((List.range (a+1 - (q+1))).reverse.foldl (Tk.stp s.data.toList a (Tk.most s.data.toList a)) (q,k)=bb):=by
       show _=_;rw [<-hfold.out,hstep];unfold Tk.stp;rw [hk,if_pos (by exact hbig),show a - (a - q)=q by omega]
      have d5:decide ((best:Int)<(k:Int))=true:=by simp;omega
      have d5':decide (best<k)=true:=by simp;omega
      have hk64:k<=64:=by omega
      clear hstep hfold hk hle hm64;go_wp2_with (go_at_call 165;go_must (refine (hcm _).mono ?_;rintro e w1 ⟨rfl,hb1⟩))
      go_roundw
      case rel=>exact ⟨k,q,q+1,rfl,rfl,by go_num,by omega,by omega,by omega,hk64,HF,bch Gi hb1 (nl _)⟩
      case measure=>simp [intOf];omega
     ·have HF:Hid ((List.range (a+1 - (q+1))).reverse.foldl (Tk.stp s.data.toList a (Tk.most s.data.toList a)) (far,best)=bb):=by
       show _=_;rw [<-hfold.out,hstep];unfold Tk.stp;rw [hk,if_neg (by exact hbig)]
      have d5:decide ((best:Int)<(k:Int))=false:=by simp;omega
      have d5':decide (best<k)=false:=by simp;omega
      clear hstep hfold hk hle hm64;go_wp2_with (go_at_call 165;go_must (refine (hcm _).mono ?_;rintro e w1 ⟨rfl,hb1⟩))
      go_roundw
      case rel=>exact ⟨best,far,q+1,rfl,rfl,by go_num,by omega,by omega,hfar,hbest,HF,bch Gi hb1 (nl _)⟩
      case measure=>simp [intOf];omega
    ·have d4:decide ((q:Int)<=(a:Int))=false:=by simp;omega
     have d4':decide (q<=a)=false:=by simp;omega
     have hbb:bb=(far,best):=by
      rw [<-hfold.out,show a+1 - q=0 by omega];rfl
     subst hbb;have HOi:Hid (wr.ownsRow w.heap.size 165 3 u6 l.length (tcs l)):=Zh HO.out Gi;have GG:=bch G Gi (nl _);have hgw:=GG.size;clear hfold;by_cases h3:best<3
     ·have HN:Hid (l++Tk.P s (a+1) f=Tk.P s d d):=by
       show _=_;rw [<-hP.out,Tk.ZrP hend (by rw [HB.out];exact h3)]
      have HXN:Hid (X++s.extract a (a+1)=s.extract f (a+1)):=by
       show _=_;rw [hX.out];exact Zqp s f a hfa
      have d6:decide ((best:Int)<3)=true:=by simp;omega
      have d6':decide (best<3)=true:=by simp;omega
      have hsl:=Zee s (a:Int) ((a:Int)+1) a (a+1) rfl (by omega) (by omega) (by omega);have hY:(s.extract a (a+1)).size=1:=by rw [ZnO s a (a+1) (by omega)];omega
      have hXb:X.size<=768:=by omega
      have hwr:IntKind.i64.wrap ((a:Int)+1)=(a:Int)+1:=IntWalk.i64_in _ ⟨by omega,by omega⟩;generalize s.extract a (a+1)=Y at *;have HXs:Hid (X.size=a - f):=hXs;clear hX hXs hP HM HB;go_wp2_with fail
      go_roundw
      case rel=>exact ⟨a+1,f,X++Y,l,rfl,HXN,by go_num,HOi.out,by omega,by omega,hlf,HN,GG⟩
      case measure=>simp [intOf];omega
     ·have hbo:=Tk.ZjT s.data.toList a;rw [HB.out,HM.out] at hbo;simp only at hbo;have han:a+best<=s.size:=by omega
      have HN:Hid ((l++Tk.lay s f a)++[⟨⟨#[]⟩,(far:Nat),(best:Nat)⟩]++Tk.P s (a+best) (a+best)=Tk.P s d d):=by
       show _=_;rw [<-hP.out,Tk.Znt hend (by rw [HB.out];exact h3),HB.out];simp
      have d6:decide ((best:Int)<3)=false:=by simp;omega
      have d6':decide (best<3)=false:=by simp;omega
      have hwr:IntKind.i64.wrap ((a:Int)+(best:Int))=(a:Int)+(best:Int):=IntWalk.i64_in _ ⟨by omega,by omega⟩;clear hbo hP HM HB;by_cases hf:f<a
      ·have hE:=ZX (s:=X) (by omega)
       have hlay:Tk.lay s f a=[⟨X,0,0⟩]:=by
        unfold Tk.lay;rw [if_pos hf,hX.out]
       rw [hlay] at HN;have HXs:Hid (X.size=a - f):=hXs;clear hX hXs hlay;have tok:True:=trivial;go_wp2_with (first | (at_builtin;have _t:=tok;go_must (refine wpList_append_own _ rfl _ _ 131 rfl w.heap.size 165 i0 (.agg #[.string ⟨#[]⟩,.int .i64 0,.int .i64 0]) 3 32 U131 hi hz0 hz1 hz2 rfl (by decide) _ _ _ rfl (HOi.out.alloc _) ⟨wr.heap.size,0,none⟩ 1 1 [.string X,.int .i64 0,.int .i64 0] rfl rfl (ZgB _ _ _ _ _) (one3 _ _ _ rfl rfl rfl) (ZaK (by omega)) (by omega) (by simp;omega) ?_;intro v4 w4 hown4 hgrow4 _;clear _t tok;have hgs4:=hgrow4.size)) | (at_builtin;go_must (refine wpList_append_own _ rfl _ _ 131 rfl w.heap.size 165 i0 (.agg #[.string ⟨#[]⟩,.int .i64 0,.int .i64 0]) 3 32 U131 hi hz0 hz1 hz2 rfl (by decide) _ _ _ rfl (hown4.alloc _) ⟨w4.heap.size,0,none⟩ 1 1 [.string ⟨#[]⟩,.int .i64 (far:Nat),.int .i64 (best:Nat)] rfl rfl (ZgB _ _ _ _ _) (one3 _ _ _ rfl rfl rfl) (ZaK (by omega)) (by omega) (by simp at hgs4 hgw |-;omega) ?_;intro v5 w5 hown5 hgrow5 _)))
       go_roundw
       case rel =>
        have t1:tcs (l++[⟨X,0,0⟩]++[⟨⟨#[]⟩,(far:Nat),(best:Nat)⟩])=tcs l++[.string X,.int .i64 0,.int .i64 0]++[.string ⟨#[]⟩,.int .i64 (far:Nat),.int .i64 (best:Nat)]:=by rw [Zao,Zao];rfl
        have B4:=(GG.alloc hgw _).grown hgrow4 (by simp;omega) (fun k hk=>(HOi.out.lt k hk).1);refine ⟨a+best,a+best,⟨#[]⟩,l++[⟨X,0,0⟩]++[⟨⟨#[]⟩,(far:Nat),(best:Nat)⟩],rfl,(Zfy s _).symm,by go_num,?_,nl _,by omega,by simp;omega,HN,(B4.alloc B4.size _).grown hgrow5 (by have:=B4.size;simp;omega) (fun k hk=>(hown4.lt k hk).1)⟩;rw [t1,List.length_append,List.length_append];exact hown5
       case measure=>simp [intOf];omega
      ·have hE:=Zaq (s:=X) (by omega)
       have hlay:Tk.lay s f a=[]:=by
        unfold Tk.lay;rw [if_neg hf]
       rw [hlay,List.append_nil] at HN;have HX0:Hid (X.size=0):=by show _=_;omega
       have HXs:Hid (X.size=a - f):=hXs;clear hX hXs hlay;go_wp2_with (first | (at_builtin;go_must (refine wpList_append_own _ rfl _ _ 131 rfl w.heap.size 165 i0 (.agg #[.string ⟨#[]⟩,.int .i64 0,.int .i64 0]) 3 32 U131 hi hz0 hz1 hz2 rfl (by decide) _ _ _ rfl (HOi.out.alloc _) ⟨wr.heap.size,0,none⟩ 1 1 [.string ⟨#[]⟩,.int .i64 (far:Nat),.int .i64 (best:Nat)] rfl rfl (ZgB _ _ _ _ _) (one3 _ _ _ rfl rfl rfl) (ZaK (by omega)) (by omega) (by simp at hgw |-;omega) ?_;intro v5 w5 hown5 hgrow5 _)))
       go_roundw
       case rel =>
        have t1:tcs (l++[⟨⟨#[]⟩,(far:Nat),(best:Nat)⟩])=tcs l++[.string ⟨#[]⟩,.int .i64 (far:Nat),.int .i64 (best:Nat)]:=by rw [Zao];rfl
        have hX0:X=⟨#[]⟩:=Nm.ZG (List.eq_nil_of_length_eq_zero (by simpa using HX0.out));refine ⟨a+best,a+best,X,l++[⟨⟨#[]⟩,(far:Nat),(best:Nat)⟩],rfl,by rw [hX0];exact (Zfy s _).symm,by go_num,?_,nl _,by omega,by simp;omega,HN,(GG.alloc hgw _).grown hgrow5 (by simp;omega) (fun k hk=>(HOi.out.lt k hk).1)⟩;rw [t1,List.length_append];exact hown5
       case measure=>simp [intOf];omega
  ·have d3:decide ((a:Int)<(s.size:Int))=false:=by simp;omega
   have d3':decide (a<s.size)=false:=by simp;omega
   have HE:Hid (l++Tk.lay s f a=Tk.P s d d):=by
    show _=_;rw [<-hP.out,Tk.ZsH (by omega)]
   have HOi:=HO;clear hP;by_cases hf:f<a
   ·have hE:=ZX (s:=X) (by omega)
    have hlay:Tk.lay s f a=[⟨X,0,0⟩]:=by
     unfold Tk.lay;rw [if_pos hf,hX.out]
    rw [hlay] at HE;have HXs:Hid (X.size=a - f):=hXs;clear hX hXs hlay;have tok:True:=trivial;go_wp2_with (first | (at_builtin;have _t:=tok;go_must (refine wpList_append_own _ rfl _ _ 131 rfl w.heap.size 165 i0 (.agg #[.string ⟨#[]⟩,.int .i64 0,.int .i64 0]) 3 32 U131 hi hz0 hz1 hz2 rfl (by decide) _ _ _ rfl (HOi.out.alloc _) ⟨wr.heap.size,0,none⟩ 1 1 [.string X,.int .i64 0,.int .i64 0] rfl rfl (ZgB _ _ _ _ _) (one3 _ _ _ rfl rfl rfl) (ZaK (by omega)) (by omega) (by simp;omega) ?_;intro v4 w4 hown4 hgrow4 _;clear _t tok;have hgs4:=hgrow4.size)))
    go_ret
    have t1:tcs (l++[⟨X,0,0⟩])=tcs l++[.string X,.int .i64 0,.int .i64 0]:=by rw [Zao];rfl
    rw [<-t1] at hown4;obtain ⟨ad,cap,hv,hsl⟩:=ZbN hown4;refine ⟨(G.alloc hgs _).grown hgrow4 (by simp;omega) (fun k hk=>(HO.out.lt k hk).1),ad,cap,?_,?_⟩
    ·rw [HS0.out,HD0.out,<-HE.out,<-hv];rfl
    ·rw [HS0.out,HD0.out,<-HE.out];exact hsl
   ·have hE:=Zaq (s:=X) (by omega)
    have hlay:Tk.lay s f a=[]:=by
     unfold Tk.lay;rw [if_neg hf]
    rw [hlay,List.append_nil] at HE;have HXs:Hid (X.size=a - f):=hXs;clear hX hXs hlay;go_wp2_with fail
    go_ret
    obtain ⟨ad,cap,hv,hsl⟩:=ZbN HO.out;refine ⟨G,ad,cap,?_,?_⟩
    ·rw [HS0.out,HD0.out,<-HE.out,<-hv];rfl
    ·rw [HS0.out,HD0.out,<-HE.out];exact hsl
set_option linter.unusedVariables false
namespace Bk
def bst (text s:ByteArray):ByteArray:=if s.size<text.size then (⟨#[1]⟩:ByteArray)++s else (⟨#[0]⟩:ByteArray)++text
theorem ZsG (text s:ByteArray):mnK (bks text s) (bks text s).length=if s.size=0 then bst text s else if ((⟨#[2]⟩:ByteArray)++enc s).size<(bst text s).size then (⟨#[2]⟩:ByteArray)++enc s else bst text s:=by
 have e2:∀ r,mnK (((⟨#[0]⟩:ByteArray)++text) :: ((⟨#[1]⟩:ByteArray)++s) :: r) 2=bst text s:=by
  intro r;rw [mnK,ZmN];show (if ((⟨#[1]⟩:ByteArray)++s).size<((⟨#[0]⟩:ByteArray)++text).size then (⟨#[1]⟩:ByteArray)++s else (⟨#[0]⟩:ByteArray)++text)=_;rw [Zu,Zu,bst];by_cases h:s.size<text.size
  ·rw [if_pos (by omega),if_pos h]
  ·rw [if_neg (by omega),if_neg h]
 unfold bks;by_cases h0:s.size=0
 ·rw [if_pos h0,if_pos h0];exact e2 []
 ·rw [if_neg h0,if_neg h0];show mnK _ 3=_;rw [mnK,e2];rfl
end Bk
theorem ZaP (dict text:ByteArray) (hd:dict.size<=256) (ht:text.size<=512) (ad:Option Addr) (cap:Nat) (w:World) (h:SlAt w ad (Tk.P (dict++text) dict.size dict.size)) :
 Calls Tryz.prog 133 #[.slice ad (Tk.P (dict++text) dict.size dict.size).length cap] w fun e w'=>e=.returned (.string (Bk.tk dict text))/\Below w.heap.size w w' :=
 ZgT ad cap _ w h (Zbr (Zbs dict text hd ht).1)
theorem ZkC (dict text s:ByteArray) (w:World) (hd:dict.size<=256) (ht:text.size<=512) (hS:Bk.tk dict text=s) (hs:s.size<=1024) (hp:s.size<text.size) (hz:s.size=0) :
 Calls Tryz.prog 96 #[.string dict,.string text] w fun e w'=>e=.returned (.string ((⟨#[1]⟩:ByteArray)++s))/\Below w.heap.size w w':=by
 have c1:=fun w=>ZaQ dict text w hd ht
 have c2:=fun ad cap w h=>ZaP dict text hd ht ad cap w h
 rw [hS] at c2;have c3:=fun w=>Zbm s w hs
 have z2:=Bk.Zbx s hs;have x0:=Bk.Zu 0 text;have x1:=Bk.Zu 1 s;have x2:=Bk.Zu 2 (Bk.enc s);generalize Tk.P (dict++text) dict.size dict.size=L at *;generalize (⟨#[2]⟩:ByteArray)++Bk.enc s=T at *;generalize Bk.enc s=En at *;have hT:T.size<=20000:=by omega
 have hT':(T.size:Int)<=20000:=by omega
 have hs':(s.size:Int)<=1024:=by omega
 have ht':(text.size:Int)<=512:=by omega
 have hw1:wrap64 ((s.size:Int)+1)=(s.size:Int)+1:=w64 (by omega) (by omega);have hp1:decide ((s.size:Int)+1<(text.size:Int)+1)=true:=by simp;omega
 have hp3:decide ((s.size:Int)<(text.size:Int))=true:=by simp;omega
 have hp2:decide ((s.size:Int)+1<1+(text.size:Int))=true:=by simp;omega
 have hp4:(s.size:Int)+1<1+(text.size:Int):=by omega
 have hs0:s=⟨#[]⟩:=by
  apply ByteArray.ext;exact Array.eq_empty_of_size_eq_zero hz
 have hem:s.toList.isEmpty=true:=by rw [hs0,ByteArray.toList_eq];rfl
 clear hs0 hS hz c3;clear hp hd ht hs x0 x1;go_enter Tryz.func96,Tryz.ntmps96
 go_wp2_with fail
 refine (c1 _).mono ?_;rintro e w1 ⟨G1,ad,cap,rfl,S1⟩;go_wp2_with fail
 refine (c2 ad cap _ S1).mono ?_;rintro e w2 ⟨rfl,G2⟩;have B2:=bch G1 G2 (nl _);clear G1 G2 S1 c1 c2;go_wp2_with fail
 go_ret
 exact ⟨rfl,B2⟩
theorem Zlh (dict text s:ByteArray) (w:World) (hd:dict.size<=256) (ht:text.size<=512) (hS:Bk.tk dict text=s) (hs:s.size<=1024) (hp:¬ s.size<text.size) (hz:s.size=0) :
 Calls Tryz.prog 96 #[.string dict,.string text] w fun e w'=>e=.returned (.string ((⟨#[0]⟩:ByteArray)++text))/\Below w.heap.size w w':=by
 have c1:=fun w=>ZaQ dict text w hd ht
 have c2:=fun ad cap w h=>ZaP dict text hd ht ad cap w h
 rw [hS] at c2;have c3:=fun w=>Zbm s w hs
 have z2:=Bk.Zbx s hs;have x0:=Bk.Zu 0 text;have x1:=Bk.Zu 1 s;have x2:=Bk.Zu 2 (Bk.enc s);generalize Tk.P (dict++text) dict.size dict.size=L at *;generalize (⟨#[2]⟩:ByteArray)++Bk.enc s=T at *;generalize Bk.enc s=En at *;have hT:T.size<=20000:=by omega
 have hT':(T.size:Int)<=20000:=by omega
 have hs':(s.size:Int)<=1024:=by omega
 have ht':(text.size:Int)<=512:=by omega
 have hw1:wrap64 ((s.size:Int)+1)=(s.size:Int)+1:=w64 (by omega) (by omega);have hp1:decide ((s.size:Int)+1<(text.size:Int)+1)=false:=by simp;omega
 have hp3:decide ((s.size:Int)<(text.size:Int))=false:=by simp;omega
 have hp2:decide ((s.size:Int)+1<1+(text.size:Int))=false:=by simp;omega
 have hp4:1+(text.size:Int)<=(s.size:Int)+1:=by omega
 have hs0:s=⟨#[]⟩:=by
  apply ByteArray.ext;exact Array.eq_empty_of_size_eq_zero hz
 have hem:s.toList.isEmpty=true:=by rw [hs0,ByteArray.toList_eq];rfl
 clear hs0 hS hz c3;clear hp hd ht hs x0 x1;go_enter Tryz.func96,Tryz.ntmps96
 go_wp2_with fail
 refine (c1 _).mono ?_;rintro e w1 ⟨G1,ad,cap,rfl,S1⟩;go_wp2_with fail
 refine (c2 ad cap _ S1).mono ?_;rintro e w2 ⟨rfl,G2⟩;have B2:=bch G1 G2 (nl _);clear G1 G2 S1 c1 c2;go_wp2_with fail
 go_ret
 exact ⟨rfl,B2⟩
theorem Zll (dict text s:ByteArray) (w:World) (hd:dict.size<=256) (ht:text.size<=512) (hS:Bk.tk dict text=s) (hs:s.size<=1024) (hp:s.size<text.size) (hz:s.size ≠ 0) (hr:(Bk.enc s).size+1<s.size+1) :
 Calls Tryz.prog 96 #[.string dict,.string text] w fun e w'=>e=.returned (.string ((⟨#[2]⟩:ByteArray)++Bk.enc s))/\Below w.heap.size w w':=by
 have c1:=fun w=>ZaQ dict text w hd ht
 have c2:=fun ad cap w h=>ZaP dict text hd ht ad cap w h
 rw [hS] at c2;have c3:=fun w=>Zbm s w hs
 have z2:=Bk.Zbx s hs;have x0:=Bk.Zu 0 text;have x1:=Bk.Zu 1 s;have x2:=Bk.Zu 2 (Bk.enc s);generalize Tk.P (dict++text) dict.size dict.size=L at *;generalize (⟨#[2]⟩:ByteArray)++Bk.enc s=T at *;generalize Bk.enc s=En at *;have hT:T.size<=20000:=by omega
 have hT':(T.size:Int)<=20000:=by omega
 have hs':(s.size:Int)<=1024:=by omega
 have ht':(text.size:Int)<=512:=by omega
 have hw1:wrap64 ((s.size:Int)+1)=(s.size:Int)+1:=w64 (by omega) (by omega);have hp1:decide ((s.size:Int)+1<(text.size:Int)+1)=true:=by simp;omega
 have hp3:decide ((s.size:Int)<(text.size:Int))=true:=by simp;omega
 have hp2:decide ((s.size:Int)+1<1+(text.size:Int))=true:=by simp;omega
 have hp4:(s.size:Int)+1<1+(text.size:Int):=by omega
 have hem:s.toList.isEmpty=false:=by
  rw [ByteArray.toList_eq]
  cases hq:s.data.toList with
  | nil=>exact absurd (by rw [<-Cd.Zf,hq];rfl) hz
  | cons a b=>rfl
 have hr1:decide ((T.size:Int)<1+(s.size:Int))=true:=by rw [x2];simp;omega
 have hr2:(T.size:Int)<1+(s.size:Int):=by omega
 clear hS hr hz x2 z2;clear hp hd ht hs x0 x1;go_enter Tryz.func96,Tryz.ntmps96
 go_wp2_with fail
 refine (c1 _).mono ?_;rintro e w1 ⟨G1,ad,cap,rfl,S1⟩;go_wp2_with fail
 refine (c2 ad cap _ S1).mono ?_;rintro e w2 ⟨rfl,G2⟩;have B2:=bch G1 G2 (nl _);clear G1 G2 S1 c1 c2;go_wp2_with fail
 refine (c3 _).mono ?_;rintro e w3 ⟨rfl,G3⟩;have B3:=bch B2 G3 (nl _);clear B2 G3 c3;go_wp2_with fail
 go_ret
 exact ⟨rfl,B3⟩
theorem ZlE (dict text s:ByteArray) (w:World) (hd:dict.size<=256) (ht:text.size<=512) (hS:Bk.tk dict text=s) (hs:s.size<=1024) (hp:s.size<text.size) (hz:s.size ≠ 0) (hr:¬ (Bk.enc s).size+1<s.size+1) :
 Calls Tryz.prog 96 #[.string dict,.string text] w fun e w'=>e=.returned (.string ((⟨#[1]⟩:ByteArray)++s))/\Below w.heap.size w w':=by
 have c1:=fun w=>ZaQ dict text w hd ht
 have c2:=fun ad cap w h=>ZaP dict text hd ht ad cap w h
 rw [hS] at c2;have c3:=fun w=>Zbm s w hs
 have z2:=Bk.Zbx s hs;have x0:=Bk.Zu 0 text;have x1:=Bk.Zu 1 s;have x2:=Bk.Zu 2 (Bk.enc s);generalize Tk.P (dict++text) dict.size dict.size=L at *;generalize (⟨#[2]⟩:ByteArray)++Bk.enc s=T at *;generalize Bk.enc s=En at *;have hT:T.size<=20000:=by omega
 have hT':(T.size:Int)<=20000:=by omega
 have hs':(s.size:Int)<=1024:=by omega
 have ht':(text.size:Int)<=512:=by omega
 have hw1:wrap64 ((s.size:Int)+1)=(s.size:Int)+1:=w64 (by omega) (by omega);have hp1:decide ((s.size:Int)+1<(text.size:Int)+1)=true:=by simp;omega
 have hp3:decide ((s.size:Int)<(text.size:Int))=true:=by simp;omega
 have hp2:decide ((s.size:Int)+1<1+(text.size:Int))=true:=by simp;omega
 have hp4:(s.size:Int)+1<1+(text.size:Int):=by omega
 have hem:s.toList.isEmpty=false:=by
  rw [ByteArray.toList_eq]
  cases hq:s.data.toList with
  | nil=>exact absurd (by rw [<-Cd.Zf,hq];rfl) hz
  | cons a b=>rfl
 have hr1:decide ((T.size:Int)<1+(s.size:Int))=false:=by rw [x2];simp;omega
 have hr2:1+(s.size:Int)<=(T.size:Int):=by omega
 clear hS hr hz x2 z2;clear hp hd ht hs x0 x1;go_enter Tryz.func96,Tryz.ntmps96
 go_wp2_with fail
 refine (c1 _).mono ?_;rintro e w1 ⟨G1,ad,cap,rfl,S1⟩;go_wp2_with fail
 refine (c2 ad cap _ S1).mono ?_;rintro e w2 ⟨rfl,G2⟩;have B2:=bch G1 G2 (nl _);clear G1 G2 S1 c1 c2;go_wp2_with fail
 refine (c3 _).mono ?_;rintro e w3 ⟨rfl,G3⟩;have B3:=bch B2 G3 (nl _);clear B2 G3 c3;go_wp2_with fail
 go_ret
 exact ⟨rfl,B3⟩
theorem Zlx (dict text s:ByteArray) (w:World) (hd:dict.size<=256) (ht:text.size<=512) (hS:Bk.tk dict text=s) (hs:s.size<=1024) (hp:¬ s.size<text.size) (hz:s.size ≠ 0) (hr:(Bk.enc s).size+1<text.size+1) :
 Calls Tryz.prog 96 #[.string dict,.string text] w fun e w'=>e=.returned (.string ((⟨#[2]⟩:ByteArray)++Bk.enc s))/\Below w.heap.size w w':=by
 have c1:=fun w=>ZaQ dict text w hd ht
 have c2:=fun ad cap w h=>ZaP dict text hd ht ad cap w h
 rw [hS] at c2;have c3:=fun w=>Zbm s w hs
 have z2:=Bk.Zbx s hs;have x0:=Bk.Zu 0 text;have x1:=Bk.Zu 1 s;have x2:=Bk.Zu 2 (Bk.enc s);generalize Tk.P (dict++text) dict.size dict.size=L at *;generalize (⟨#[2]⟩:ByteArray)++Bk.enc s=T at *;generalize Bk.enc s=En at *;have hT:T.size<=20000:=by omega
 have hT':(T.size:Int)<=20000:=by omega
 have hs':(s.size:Int)<=1024:=by omega
 have ht':(text.size:Int)<=512:=by omega
 have hw1:wrap64 ((s.size:Int)+1)=(s.size:Int)+1:=w64 (by omega) (by omega);have hp1:decide ((s.size:Int)+1<(text.size:Int)+1)=false:=by simp;omega
 have hp3:decide ((s.size:Int)<(text.size:Int))=false:=by simp;omega
 have hp2:decide ((s.size:Int)+1<1+(text.size:Int))=false:=by simp;omega
 have hp4:1+(text.size:Int)<=(s.size:Int)+1:=by omega
 have hem:s.toList.isEmpty=false:=by
  rw [ByteArray.toList_eq]
  cases hq:s.data.toList with
  | nil=>exact absurd (by rw [<-Cd.Zf,hq];rfl) hz
  | cons a b=>rfl
 have hr1:decide ((T.size:Int)<1+(text.size:Int))=true:=by rw [x2];simp;omega
 have hr2:(T.size:Int)<1+(text.size:Int):=by omega
 clear hS hr hz x2 z2;clear hp hd ht hs x0 x1;go_enter Tryz.func96,Tryz.ntmps96
 go_wp2_with fail
 refine (c1 _).mono ?_;rintro e w1 ⟨G1,ad,cap,rfl,S1⟩;go_wp2_with fail
 refine (c2 ad cap _ S1).mono ?_;rintro e w2 ⟨rfl,G2⟩;have B2:=bch G1 G2 (nl _);clear G1 G2 S1 c1 c2;go_wp2_with fail
 refine (c3 _).mono ?_;rintro e w3 ⟨rfl,G3⟩;have B3:=bch B2 G3 (nl _);clear B2 G3 c3;go_wp2_with fail
 go_ret
 exact ⟨rfl,B3⟩
theorem Zlz (dict text s:ByteArray) (w:World) (hd:dict.size<=256) (ht:text.size<=512) (hS:Bk.tk dict text=s) (hs:s.size<=1024) (hp:¬ s.size<text.size) (hz:s.size ≠ 0) (hr:¬ (Bk.enc s).size+1<text.size+1) :
 Calls Tryz.prog 96 #[.string dict,.string text] w fun e w'=>e=.returned (.string ((⟨#[0]⟩:ByteArray)++text))/\Below w.heap.size w w':=by
 have c1:=fun w=>ZaQ dict text w hd ht
 have c2:=fun ad cap w h=>ZaP dict text hd ht ad cap w h
 rw [hS] at c2;have c3:=fun w=>Zbm s w hs
 have z2:=Bk.Zbx s hs;have x0:=Bk.Zu 0 text;have x1:=Bk.Zu 1 s;have x2:=Bk.Zu 2 (Bk.enc s);generalize Tk.P (dict++text) dict.size dict.size=L at *;generalize (⟨#[2]⟩:ByteArray)++Bk.enc s=T at *;generalize Bk.enc s=En at *;have hT:T.size<=20000:=by omega
 have hT':(T.size:Int)<=20000:=by omega
 have hs':(s.size:Int)<=1024:=by omega
 have ht':(text.size:Int)<=512:=by omega
 have hw1:wrap64 ((s.size:Int)+1)=(s.size:Int)+1:=w64 (by omega) (by omega);have hp1:decide ((s.size:Int)+1<(text.size:Int)+1)=false:=by simp;omega
 have hp3:decide ((s.size:Int)<(text.size:Int))=false:=by simp;omega
 have hp2:decide ((s.size:Int)+1<1+(text.size:Int))=false:=by simp;omega
 have hp4:1+(text.size:Int)<=(s.size:Int)+1:=by omega
 have hem:s.toList.isEmpty=false:=by
  rw [ByteArray.toList_eq]
  cases hq:s.data.toList with
  | nil=>exact absurd (by rw [<-Cd.Zf,hq];rfl) hz
  | cons a b=>rfl
 have hr1:decide ((T.size:Int)<1+(text.size:Int))=false:=by rw [x2];simp;omega
 have hr2:1+(text.size:Int)<=(T.size:Int):=by omega
 clear hS hr hz x2 z2;clear hp hd ht hs x0 x1;go_enter Tryz.func96,Tryz.ntmps96
 go_wp2_with fail
 refine (c1 _).mono ?_;rintro e w1 ⟨G1,ad,cap,rfl,S1⟩;go_wp2_with fail
 refine (c2 ad cap _ S1).mono ?_;rintro e w2 ⟨rfl,G2⟩;have B2:=bch G1 G2 (nl _);clear G1 G2 S1 c1 c2;go_wp2_with fail
 refine (c3 _).mono ?_;rintro e w3 ⟨rfl,G3⟩;have B3:=bch B2 G3 (nl _);clear B2 G3 c3;go_wp2_with fail
 go_ret
 exact ⟨rfl,B3⟩
theorem Zou (dict text:ByteArray) (w:World) (hd:dict.size<=256) (ht:text.size<=512) :
 Calls Tryz.prog 96 #[.string dict,.string text] w fun e w'=>e=.returned (.string (Bk.pak dict text).1)/\Below w.heap.size w w':=by
 have e:(Bk.pak dict text).1=Bk.mnK (Bk.bks text (Bk.tk dict text)) (Bk.bks text (Bk.tk dict text)).length:=by rw [Bk.pak,if_neg (by omega)]
 rw [e,Bk.ZsG];have hs:=Bk.Zim hd ht;have h1:=Bk.Zu 1 (Bk.tk dict text);have h0:=Bk.Zu 0 text;have h2:=Bk.Zu 2 (Bk.enc (Bk.tk dict text));unfold Bk.bst;by_cases hp:(Bk.tk dict text).size<text.size
 ·rw [if_pos hp];by_cases hz:(Bk.tk dict text).size=0
  ·rw [if_pos hz];exact ZkC dict text _ w hd ht rfl hs hp hz
  ·rw [if_neg hz];by_cases hr:(Bk.enc (Bk.tk dict text)).size+1<(Bk.tk dict text).size+1
   ·rw [if_pos (by rw [h1,h2];exact hr)];exact Zll dict text _ w hd ht rfl hs hp hz hr
   ·rw [if_neg (by rw [h1,h2];exact hr)];exact ZlE dict text _ w hd ht rfl hs hp hz hr
 ·rw [if_neg hp];by_cases hz:(Bk.tk dict text).size=0
  ·rw [if_pos hz];exact Zlh dict text _ w hd ht rfl hs hp hz
  ·rw [if_neg hz];by_cases hr:(Bk.enc (Bk.tk dict text)).size+1<text.size+1
   ·rw [if_pos (by rw [h0,h2];exact hr)];exact Zlx dict text _ w hd ht rfl hs hp hz hr
   ·rw [if_neg (by rw [h0,h2];exact hr)];exact Zlz dict text _ w hd ht rfl hs hp hz hr
theorem Zfq (ad af:Option Addr) (cd cf:Nat) (a:Ar.A) (name text:ByteArray) (dict:Int) (w:World) (h:TxSl w ad a.dicts) (hl:a.dicts.length<=8796093022208) (hh:Ar.has a.dicts dict=true) (hd:(Ar.dct a.dicts dict).size<=256) (ht:text.size<=512) :
 Calls Tryz.prog 58 #[av ad cd af cf a,.string name,.string text,.int .i64 dict] w fun e w'=>e=.returned (fv (Ar.pk a.dicts name text dict))/\Below w.heap.size w w':=by
 have hb:=fun o p=>((bR w.heap.size w).alloc (nl _) o).alloc (by simp) p
 have C1:Hid (∀ w',Below w.heap.size w w'->Calls Tryz.prog 63 #[av ad cd af cf a,.int .i64 dict] w' fun e w2=>e=.returned (.string (Ar.dct a.dicts dict))/\Below w'.heap.size w' w2):=fun w' h9=>Zdk ad af cd cf a dict w' (h.below h9) hl hh
 have C2:Hid (∀ w',Calls Tryz.prog 96 #[.string (Ar.dct a.dicts dict),.string text] w' fun e w2=>e=.returned (.string (Bk.pak (Ar.dct a.dicts dict) text).1)/\Below w'.heap.size w' w2):=fun w'=>Zou _ _ w' hd ht
 have C3:Hid (∀ w',Calls Tryz.prog 64 #[.string text] w' fun e w2=>e=.returned (.int .i64 (Ar.sm text))/\Below w'.heap.size w' w2):=fun w'=>(Zev text w' (by omega)).mono (by rintro e w2 ⟨rfl,rfl⟩;exact ⟨rfl,bR _ _⟩)
 unfold fv Ar.pk;simp only;unfold av at C1 |-
 generalize (Bk.pak (Ar.dct a.dicts dict) text).1=K at *;generalize Ar.dct a.dicts dict=X at *;generalize Ar.sm text=M at *;clear h hh hd;generalize a.dicts.length=D at *;generalize a.files.length=N at *;have hti:(text.size:Int)<=512:=by omega
 go_enter Tryz.func58,Tryz.ntmps58
 go_wp2_with fail
 obtain ⟨kA,kF⟩:=box2 w #[.slice ad D cd,.slice af N cf] #[.string ⟨#[]⟩,.int .i64 0,.int .i64 0,.int .i64 0,.string ⟨#[]⟩] 25 46;have fz:∀ i,((w.alloc (.cells #[.slice ad D cd,.slice af N cf] 25 (0,0))).alloc (.cells #[.string ⟨#[]⟩,.int .i64 0,.int .i64 0,.int .i64 0,.string ⟨#[]⟩] 46 (0,0))).frozen? ⟨w.heap.size+1,i,none⟩=false:=fun i=>fN _ _ _ _ (by simp)
 have B1:=hb (.cells #[.slice ad D cd,.slice af N cf] 25 (0,0)) (.cells #[.string ⟨#[]⟩,.int .i64 0,.int .i64 0,.int .i64 0,.string ⟨#[]⟩] 46 (0,0));have hz:w.heap.size+1<((w.alloc (.cells #[.slice ad D cd,.slice af N cf] 25 (0,0))).alloc (.cells #[.string ⟨#[]⟩,.int .i64 0,.int .i64 0,.int .i64 0,.string ⟨#[]⟩] 46 (0,0))).heap.size:=by simp
 generalize ((w.alloc (.cells #[.slice ad D cd,.slice af N cf] 25 (0,0))).alloc (.cells #[.string ⟨#[]⟩,.int .i64 0,.int .i64 0,.int .i64 0,.string ⟨#[]⟩] 46 (0,0)))=w1 at *;have hz0:w.heap.size<w1.heap.size:=by omega
 have HS:Hid (∀ w',Below w1.heap.size w1 w'->w'.cell? ⟨w.heap.size,0,none⟩=some (.slice ad D cd)/\w'.cell? ⟨w.heap.size,1,none⟩=some (.slice af N cf)):=fun w' h9=>⟨(h9.cell (p:=⟨w.heap.size,0,none⟩) hz0).trans (kA 0),(h9.cell (p:=⟨w.heap.size,1,none⟩) hz0).trans (kA 1)⟩
 have HK:Hid (∀ w',Below w1.heap.size w1 w'->w'.cell? ⟨w.heap.size+1,0,none⟩=some (.string ⟨#[]⟩)/\w'.cell? ⟨w.heap.size+1,1,none⟩=some (.int .i64 0)/\w'.cell? ⟨w.heap.size+1,2,none⟩=some (.int .i64 0)/\w'.cell? ⟨w.heap.size+1,3,none⟩=some (.int .i64 0)/\w'.cell? ⟨w.heap.size+1,4,none⟩=some (.string ⟨#[]⟩)
  ∧ w'.frozen? ⟨w.heap.size+1,0,none⟩=false/\w'.frozen? ⟨w.heap.size+1,1,none⟩=false/\w'.frozen? ⟨w.heap.size+1,2,none⟩=false/\w'.frozen? ⟨w.heap.size+1,3,none⟩=false/\w'.frozen? ⟨w.heap.size+1,4,none⟩=false):=fun w' h9 =>
  ⟨(h9.cell (p:=⟨w.heap.size+1,0,none⟩) hz).trans (kF 0),(h9.cell (p:=⟨w.heap.size+1,1,none⟩) hz).trans (kF 1),(h9.cell (p:=⟨w.heap.size+1,2,none⟩) hz).trans (kF 2),(h9.cell (p:=⟨w.heap.size+1,3,none⟩) hz).trans (kF 3),(h9.cell (p:=⟨w.heap.size+1,4,none⟩) hz).trans (kF 4),
   (h9.frozen (p:=⟨w.heap.size+1,0,none⟩) hz).trans (fz 0),(h9.frozen (p:=⟨w.heap.size+1,1,none⟩) hz).trans (fz 1),(h9.frozen (p:=⟨w.heap.size+1,2,none⟩) hz).trans (fz 2),(h9.frozen (p:=⟨w.heap.size+1,3,none⟩) hz).trans (fz 3),(h9.frozen (p:=⟨w.heap.size+1,4,none⟩) hz).trans (fz 4)⟩
 have HS5:Hid (∀ w',Below w1.heap.size w1 w'->(fun w9=>w9.cell? ⟨w.heap.size,0,none⟩=some (.slice ad D cd)/\w9.cell? ⟨w.heap.size,1,none⟩=some (.slice af N cf)) (w5s w' (w.heap.size+1) 0 (.string name) (.int .i64 dict) (.int .i64 (text.size:Int)) (.int .i64 M) (.string K))):=fun w' h9=>by
  obtain ⟨e0,e1⟩:=HS.out w' h9;have gr:=ZcT w' (w.heap.size+1) 0 (.string name) (.int .i64 dict) (.int .i64 (text.size:Int)) (.int .i64 M) (.string K);exact ⟨Ze gr e0 (by simp),Ze gr e1 (by simp)⟩
 have C1':Hid (∀ w',Below w1.heap.size w1 w'->Calls Tryz.prog 63 #[.agg #[.slice ad D cd,.slice af N cf],.int .i64 dict] w' fun e w2=>e=.returned (.string X)/\Below w'.heap.size w' w2):=fun w' h9=>C1.out w' (bch B1 h9 (nl _))
 clear kA kF fz C1;unfold w5s at HS5;simp only [Nat.zero_add] at HS5;go_region_held3 (fun w'=>w'.cell? ⟨w.heap.size,0,none⟩=some (.slice ad D cd)/\w'.cell? ⟨w.heap.size,1,none⟩=some (.slice af N cf))
  (first | (exact HS.out _ ((bR _ _).drew)) | (exact HS.out _ B4) | (exact HS.out _ B5) | (exact HS.out _ B6) | (exact HS5.out _ B6))
  (first
   | (go_at_call 64;refine (C3.out _).mono ?_;rintro e w4 ⟨rfl,G4⟩;have B4:Below w1.heap.size w1 w4:=bch ((bR _ _).drew) G4 (nl _))
   | (go_at_call 63;refine (C1'.out _ B4).mono ?_;rintro e w5 ⟨rfl,G5⟩;have B5:Below w1.heap.size w1 w5:=bch B4 G5 (nl _))
   | (go_at_call 96;refine (C2.out _).mono ?_;rintro e w6 ⟨rfl,G6⟩;have B6:Below w1.heap.size w1 w6:=bch B5 G6 (nl _);obtain ⟨l0,l1,l2,l3,l4,lf0,lf1,lf2,lf3,lf4⟩:=HK.out w6 B6))
 all_goals
  obtain ⟨k0,k1,k2,k3,k4⟩:=set5 (o:=0) (.string name) (.int .i64 dict) (.int .i64 (text.size:Int)) (.int .i64 M) (.string K) l0 l1 l2 l3 l4;have B7:=ZfJ (bch B1 B6 (nl _)) (w.heap.size+1) 0 (.string name) (.int .i64 dict) (.int .i64 (text.size:Int)) (.int .i64 M) (.string K) (by omega);unfold w5s at k0 k1 k2 k3 k4 B7;simp only [Nat.zero_add] at k0 k1 k2 k3 k4 B7;generalize (((((w6.setCell ⟨w.heap.size+1,0,none⟩ (.string name)).setCell ⟨w.heap.size+1,1,none⟩ (.int .i64 dict)).setCell ⟨w.heap.size+1,2,none⟩ (.int .i64 (text.size:Int))).setCell ⟨w.heap.size+1,3,none⟩ (.int .i64 M)).setCell ⟨w.heap.size+1,4,none⟩ (.string K))=wz at *;clear l0 l1 l2 l3 l4 lf0 lf1 lf2 lf3 lf4 HS5 HS HK B6 B5 B4 G4 G5 G6;go_wp2_with fail
  exact bodyPost_ret (v:=.agg #[.string name,.int .i64 dict,.int .i64 (text.size:Int),.int .i64 M,.string K]) (by simp [results,Tryz.results58,go_sem,k0,k1,k2,k3,k4]) rfl ⟨rfl,B7⟩
theorem ZfB (ad af:Option Addr) (cd cf:Nat) (a:Ar.A) (w:World) (hn1:a.dicts.length<=8796093022208) (hn2:a.files.length<=8796093022208) (hm:4<a.dicts.length\/12<a.files.length) :
 Calls Tryz.prog 19 #[av ad cd af cf a] w fun e w'=>e=.returned (.int .i64 2)/\Below w.heap.size w w':=by
 have hb:=fun o=>(bR w.heap.size w).alloc (nl _) o
 unfold av;generalize a.dicts.length=D at *;generalize a.files.length=N at *;by_cases h4:4<D
 ·have d1:decide ((4:Int)<(D:Int))=true:=by simp;omega
  have d1':decide (4<D)=true:=by simp;omega
  clear hm;go_enter Tryz.func19,Tryz.ntmps19
  go_wp2_with fail
  go_ret
  exact ⟨rfl,hb _⟩
 ·have d1:decide ((4:Int)<(D:Int))=false:=by simp;omega
  have d1':decide (4<D)=false:=by simp;omega
  have d2:decide ((12:Int)<(N:Int))=true:=by simp;omega
  have d2':decide (12<N)=true:=by simp;omega
  clear hm h4;go_enter Tryz.func19,Tryz.ntmps19
  go_wp2_with fail
  go_ret
  exact ⟨rfl,hb _⟩
theorem Zfd (ad af:Option Addr) (cd cf:Nat) (a:Ar.A) (w:World) (h:ArV w ad af a) (hs:SaneA a) (m1:a.dicts.length<=4) (m2:a.files.length<=12) :
 Calls Tryz.prog 19 #[av ad cd af cf a] w fun e w'=>e=.returned (.int .i64 (Ar.chk a))/\Below w.heap.size w w':=by
 have hb:=fun o=>(bR w.heap.size w).alloc (nl _) o
 have HX:Hid (∀ w',Below w.heap.size w w'->∀ k,k<a.dicts.length->∃ b off,ad=some ⟨b,off,none⟩/\b<w'.heap.size/\w'.cell? ⟨b,off+k,none⟩=some (.string (Tr.xa a.dicts k))):=fun w' hb k hk=>(h.ds.below hb).at hk
 have HF:Hid (∀ w',Below w.heap.size w w'->∀ k,k<a.files.length->∃ b off,af=some ⟨b,off,none⟩/\b<w'.heap.size/\FlC w' b (off+k*5) (Ar.fa a.files k)):=fun w' h9 k hk=>(h.fs.below h9).at hk
 have HL2:Hid (∀ k,k<a.dicts.length->Ar.lgK a.dicts k=none->256<(Tr.xa a.dicts k).size->Ar.chk a=2):=fun k hk hl hs=>by
  have h1:Ar.lgK a.dicts (k+1)=some k:=by rw [Ar.lgK,hl];exact if_pos hs
  have h9:=Ar.Zef h1 (a.dicts.length - (k+1));rw [show k+1+(a.dicts.length - (k+1))=a.dicts.length by omega] at h9;have:Ar.many a=true:=by unfold Ar.many;rw [h9];simp
  unfold Ar.chk;rw [if_pos this]
 have HL0:Hid (∀ k,Ar.lgK a.dicts k=none->(Tr.xa a.dicts k).size<=256->Ar.lgK a.dicts (k+1)=none):=fun k hl hs=>by rw [Ar.lgK,hl];exact if_neg (by omega)
 have HM:Hid (Ar.lgK a.dicts a.dicts.length=none->Ar.many a=false):=fun hl=>by unfold Ar.many;rw [hl,decide_eq_false (by omega)];rfl
 have HB:Hid (Ar.many a=false->∀ k,k<a.files.length->Ar.okAt a k=false->Ar.chk a=1):=fun hm k hk ho=>by unfold Ar.chk;rw [hm,Ar.ZbU hk ho];rfl
 have HG:Hid (Ar.many a=false->Ar.gdK a a.files.length=true->Ar.chk a=0):=fun hm hg=>Ar.Zd.2 ⟨hm,hg⟩
 have HD:Hid (∀ (n:Int),Ar.has a.dicts n=true->∀ w',Below w.heap.size w w'->Calls Tryz.prog 63 #[av ad cd af cf a,.int .i64 n] w' fun e w2=>e=.returned (.string (Ar.dct a.dicts n))/\Below w'.heap.size w' w2):=fun n hh w' h9=>Zdk ad af cd cf a n w' (h.ds.below h9) hs.nd hh
 have HU:Hid (Ar.many a=false->∀ k w',Calls Tryz.prog 62 #[.string (Ar.dct a.dicts (Ar.fa a.files k).dict),.string (Ar.fa a.files k).blk] w' fun e w2=>ZaX (Ar.up a.dicts (Ar.fa a.files k)) w' e w2):=fun hm k w'=>ZdJ _ _ w' (Ar.ZaM hm _) (hs.bk k)
 have HN:Hid (∀ k,(Ar.fa a.files k).name.size<=140737488355328):=hs.nm
 obtain ⟨c,hc⟩:∃ c,Ar.chk a=c:=⟨_,rfl⟩
 rw [hc] at HL2 HB HG;rw [hc];clear hc h hs;unfold av at HD |-
 obtain ⟨D,hD⟩:∃ D,a.dicts.length=D:=⟨_,rfl⟩
 obtain ⟨N,hN⟩:∃ N,a.files.length=N:=⟨_,rfl⟩
 simp only [hD,hN] at HX HF HL2 HM HB HG HD m1 m2 |-
 have HNN:Hid (a.files.length=N):=hN;have HDD:Hid (a.dicts.length=D):=hD;clear hN hD;have hD':(D:Int)<=4:=by omega
 have hN':(N:Int)<=12:=by omega
 have e1:decide ((4:Int)<(D:Int))=false:=by simp;omega
 have e1':decide (4<D)=false:=by simp;omega
 have e2:decide ((12:Int)<(N:Int))=false:=by simp;omega
 have e2':decide (12<N)=false:=by simp;omega
 go_enter Tryz.func19,Tryz.ntmps19
 go_wp2_with fail
 have a0:(w.alloc (.cells #[.slice ad D cd,.slice af N cf] 25 (0,0))).cell? ⟨w.heap.size,0,none⟩=some (.slice ad D cd):=cN _ _ _ 0;have a1:(w.alloc (.cells #[.slice ad D cd,.slice af N cf] 25 (0,0))).cell? ⟨w.heap.size,1,none⟩=some (.slice af N cf):=cN _ _ _ 1;have B1:=hb (.cells #[.slice ad D cd,.slice af N cf] 25 (0,0));have hz1:w.heap.size<(w.alloc (.cells #[.slice ad D cd,.slice af N cf] 25 (0,0))).heap.size:=by simp
 generalize (w.alloc (.cells #[.slice ad D cd,.slice af N cf] 25 (0,0)))=w1 at *;go_loopw [3] (fun i wr=>∃ k:Nat,k<=D/\i=.int .i64 k/\Hid (Ar.lgK a.dicts k=none)/\wr=w1) (fun i _=>D - (intOf i).toNat)
 case atStart=>exact ⟨0,by omega,rfl,rfl,rfl⟩
 case round =>
  obtain ⟨k,hk2,rfl,HL,hwr⟩:=hrel;have hwr:=hwr.symm;subst hwr;by_cases hlt:k<D
  ·have d1:decide ((k:Int)<(D:Int))=true:=by simp;omega
   have d1':decide (k<D)=true:=by simp;omega
   have hki:(k:Int)<(D:Int):=by omega
   obtain ⟨b,off,rfl,hbl,hcell⟩:=HX.out w1 B1 k hlt;by_cases hs:256<(Tr.xa a.dicts k).size
   ·have HR:Hid (c=2):=HL2.out k hlt HL.out hs;have d2:decide ((256:Int)<((Tr.xa a.dicts k).size:Int))=true:=zdT (by omega);have d2':decide (256<(Tr.xa a.dicts k).size)=true:=zdT (by omega);clear HL;generalize Tr.xa a.dicts k=X at *;go_wp2_with fail
    go_ret
    exact ⟨congrArg (fun x=>Ending.returned (Value.int .i64 x)) HR.out.symm,B1⟩
   ·have HN1:Hid (Ar.lgK a.dicts (k+1)=none):=HL0.out k HL.out (by omega);have d2:decide ((256:Int)<((Tr.xa a.dicts k).size:Int))=false:=dF (by omega);have d2':decide (256<(Tr.xa a.dicts k).size)=false:=dF (by omega);generalize Tr.xa a.dicts k=X at *;clear hs;go_wp2_with fail
    go_roundw
    case rel=>exact ⟨k+1,by omega,by go_num,HN1,by trivial⟩
    case measure=>simp [intOf];omega
  ·obtain rfl:k=D:=by omega
   have d1:decide ((k:Int)<(k:Int))=false:=by simp
   have HMF:Hid (Ar.many a=false):=HM.out HL.out;have HBk:Hid (∀ m,m<N->Ar.okAt a m=false->c=1):=HB.out HMF.out;have HGk:Hid (Ar.gdK a N=true->c=0):=HG.out HMF.out;have HUk:Hid (∀ m w',Calls Tryz.prog 62 #[.string (Ar.dct a.dicts (Ar.fa a.files m).dict),.string (Ar.fa a.files m).blk] w' fun e w2=>ZaX (Ar.up a.dicts (Ar.fa a.files m)) w' e w2):=HU.out HMF.out;clear HL HM HL2 HL0 HB HG HU HMF HX;go_wp2_with fail
   go_loopw [4] (fun i w2=>∃ m:Nat,m<=N/\i=.int .i64 m/\Hid (Ar.gdK a m=true)/\Below w1.heap.size w1 w2) (fun i _=>N - (intOf i).toNat)
   case atStart=>exact ⟨0,by omega,rfl,rfl,bR _ _⟩
   case round =>
    obtain ⟨m,hm2,rfl,HGm,B2⟩:=hrel;have a0':=(B2.cell (p:=⟨w.heap.size,0,none⟩) hz1).trans a0;have a1':=(B2.cell (p:=⟨w.heap.size,1,none⟩) hz1).trans a1;have B3:=bch B1 B2 (nl _);have hz2:w.heap.size<wr.heap.size:=nT hz1 B2.size;by_cases hlt:m<N
    ·have d2:decide ((m:Int)<(N:Int))=true:=by simp;omega
     have d2':decide (m<N)=true:=by simp;omega
     have hmi:(m:Int)<(N:Int):=by omega
     obtain ⟨b,off,rfl,hbl,hcell⟩:=HF.out wr B3 m hlt;obtain ⟨c0,c1,c2,c3,c4⟩:=hcell;have CN:Hid (∀ w',Calls Tryz.prog 56 #[.string (Ar.fa a.files m).name] w' fun e w3=>e=.returned (.bool (Ar.isNm (Ar.fa a.files m).name))/\w3=w'):=fun w'=>ZaE _ w' (HN.out m)
     have CW:Hid (∀ w',Calls Tryz.prog 57 #[.int .i64 (Ar.fa a.files m).dict,.int .i64 0,.int .i64 (k:Nat)] w' fun e w3=>e=.returned (.bool (Ar.has a.dicts (Ar.fa a.files m).dict))/\w3=w'):=fun w'=>by
      have:=ZJ (Ar.fa a.files m).dict 0 (k:Nat) w';unfold Ar.has;rw [HDD.out];exact this
     have HP:Hid (∀ x y z,Ar.isNm (Ar.fa a.files m).name=x->(decide (m=0) || Tr.bl (Ar.fa a.files (m - 1)).name (Ar.fa a.files m).name)=y->Ar.okf a.dicts (Ar.fa a.files m)=z->Ar.okAt a m=(x && y && z)):=fun x y z h1 h2 h3=>by unfold Ar.okAt;rw [h1,h2,h3]
     have HC1:Hid (Ar.okAt a m=false->c=1):=HBk.out m hlt
     have HQ:Hid (c=1->∀ w',Below w.heap.size w w'->(Ending.returned (.int .i64 1)=Ending.returned (.int .i64 c))/\Below w.heap.size w w'):=fun h1 w' h2=>⟨by rw [h1],h2⟩
     have BF:Hid (∀ o n,Below w.heap.size w ((wr.alloc o).drewN n)):=fun o n=>below_drewN (B3.alloc B3.size o) n
     cases hnm:Ar.isNm (Ar.fa a.files m).name with
     | false =>
      have hg:Hid (c=1):=HC1.out (by rw [HP.out false _ _ hnm rfl rfl];rfl);rw [hnm] at CN;clear hnm HP HC1 CW;generalize (Ar.fa a.files m).name=f0 at *;generalize (Ar.fa a.files m).dict=f1 at *;generalize (Ar.fa a.files m).size=f2 at *;generalize (Ar.fa a.files m).sum=f3 at *;generalize (Ar.fa a.files m).blk=f4 at *;go_wp2_with fail
      go_quiet ((go_at_call 56;exact Calls.quiet_of_same (CN.out _)))
      all_goals
       go_wp2_with fail
       go_ret
       exact HQ.out hg.out _ (BF.out _ _)
     | true =>
      rw [hnm] at CN;by_cases hm0:m=0
      ·have d3:decide ((0:Int)<(m:Int))=false:=by simp;omega
       have d3':decide (0<m)=false:=by simp;omega
       have hord:(decide (m=0) || Tr.bl (Ar.fa a.files (m - 1)).name (Ar.fa a.files m).name)=true:=by rw [decide_eq_true hm0];rfl
       clear hm0
       cases hhas:Ar.has a.dicts (Ar.fa a.files m).dict with
       | false =>
        have hg:Hid (c=1):=HC1.out (by rw [HP.out true true false hnm hord (by unfold Ar.okf;rw [hhas];rfl)];rfl);rw [hhas] at CW;clear hnm HP HC1 hhas hord;generalize (Ar.fa a.files m).name=f0 at *;generalize (Ar.fa a.files m).dict=f1 at *;generalize (Ar.fa a.files m).size=f2 at *;generalize (Ar.fa a.files m).sum=f3 at *;generalize (Ar.fa a.files m).blk=f4 at *;go_wp2_with fail
        go_quiet (first | (go_at_call 56;exact Calls.quiet_of_same (CN.out _)) | (go_at_call 57;exact Calls.quiet_of_same (CW.out _)))
        all_goals
         go_wp2_with fail
         go_ret
         exact HQ.out hg.out _ (BF.out _ _)
       | true =>
        have CD:Hid (∀ w',Below w.heap.size w w'->Calls Tryz.prog 63 #[.agg #[.slice ad k cd,.slice (some ⟨b,off,none⟩) N cf],.int .i64 (Ar.fa a.files m).dict] w' fun e w3=>e=.returned (.string (Ar.dct a.dicts (Ar.fa a.files m).dict))/\Below w'.heap.size w' w3):=HD.out _ hhas;have CU:Hid (∀ w',Calls Tryz.prog 62 #[.string (Ar.dct a.dicts (Ar.fa a.files m).dict),.string (Ar.fa a.files m).blk] w' fun e w3=>ZaX (Ar.up a.dicts (Ar.fa a.files m)) w' e w3):=HUk.out m;have HO:Hid (∀ z,Ar.okf a.dicts (Ar.fa a.files m)=z->Ar.okAt a m=z):=fun z h9=>by rw [HP.out true true z hnm hord h9];rfl
        have HE:Hid (Ar.okf a.dicts (Ar.fa a.files m)=decide ((Ar.up a.dicts (Ar.fa a.files m)).2=0/\((Ar.up a.dicts (Ar.fa a.files m)).1.size:Int)=(Ar.fa a.files m).size/\Ar.sm (Ar.up a.dicts (Ar.fa a.files m)).1=(Ar.fa a.files m).sum)):=by show _=_;unfold Ar.okf;rw [hhas,Bool.true_and]
        have HZ:Hid ((Ar.up a.dicts (Ar.fa a.files m)).2=0->(Ar.up a.dicts (Ar.fa a.files m)).1.size<=512):=fun h9=>Bk.unp_size h9
        rw [hhas] at CW;have HGn:Hid (Ar.okAt a m=true->Ar.gdK a (m+1)=true):=fun h9=>by rw [Ar.gdK,HGm.out,h9];rfl
        clear hnm HP hhas hord;unfold ZaX at CU
        obtain ⟨U,hU⟩:∃ U,Ar.up a.dicts (Ar.fa a.files m)=U:=⟨_,rfl⟩
        simp only [hU] at CU HE HZ;obtain ⟨T,E⟩:=U;simp only at CU HE HZ;clear hU;generalize Ar.okf a.dicts (Ar.fa a.files m)=ok at *;generalize Ar.dct a.dicts (Ar.fa a.files m).dict=X at *;generalize (Ar.fa a.files m).name=f0 at *;generalize (Ar.fa a.files m).dict=f1 at *;generalize (Ar.fa a.files m).size=f2 at *;generalize (Ar.fa a.files m).sum=f3 at *;generalize (Ar.fa a.files m).blk=f4 at *;go_wp2_with fail
        go_quiet (first | (go_at_call 56;exact Calls.quiet_of_same (CN.out _)) | (go_at_call 57;exact Calls.quiet_of_same (CW.out _)))
        all_goals
         have hFs:wr.heap.size<(wr.alloc (.cells #[.string f0,.int .i64 f1,.int .i64 f2,.int .i64 f3,.string f4] 46 (0,0))).heap.size:=by simp
         have BA:Below wr.heap.size wr (wr.alloc (.cells #[.string f0,.int .i64 f1,.int .i64 f2,.int .i64 f3,.string f4] 46 (0,0))):=(bR _ _).alloc (nl _) _;have B9:=below_drewN (bR (wr.alloc (.cells #[.string f0,.int .i64 f1,.int .i64 f2,.int .i64 f3,.string f4] 46 (0,0))).heap.size (wr.alloc (.cells #[.string f0,.int .i64 f1,.int .i64 f2,.int .i64 f3,.string f4] 46 (0,0)))) nq;have hF:=fun i=>(B9.cell (p:=⟨wr.heap.size,i,none⟩) hFs).trans (cN wr #[.string f0,.int .i64 f1,.int .i64 f2,.int .i64 f3,.string f4] 46 i)
         have hFz:wr.heap.size<((wr.alloc (.cells #[.string f0,.int .i64 f1,.int .i64 f2,.int .i64 f3,.string f4] 46 (0,0))).drewN nq).heap.size:=nT hFs B9.size;have BA9:=bch BA B9 (nl _);clear BA B9 hFs;generalize (wr.alloc (.cells #[.string f0,.int .i64 f1,.int .i64 f2,.int .i64 f3,.string f4] 46 (0,0))).drewN nq=wF at *;have q0:=(BA9.cell (p:=⟨w.heap.size,0,none⟩) hz2).trans a0';have q1:=(BA9.cell (p:=⟨w.heap.size,1,none⟩) hz2).trans a1';have hzF:w.heap.size<wF.heap.size:=nT hz2 BA9.size;have k1:wF.cell? ⟨wr.heap.size,1,none⟩=some (.int .i64 f1):=hF 1;have k2:wF.cell? ⟨wr.heap.size,2,none⟩=some (.int .i64 f2):=hF 2;have k3:wF.cell? ⟨wr.heap.size,3,none⟩=some (.int .i64 f3):=hF 3;have k4:wF.cell? ⟨wr.heap.size,4,none⟩=some (.string f4):=hF 4;have B10:=bch B3 BA9 (nl _);have B11:=bch B2 BA9 (nl _)
         have HS:Hid (∀ w',Below wF.heap.size wF w'->Below wF.heap.size wF w'/\w'.cell? ⟨w.heap.size,0,none⟩=some (.slice ad k cd)/\w'.cell? ⟨w.heap.size,1,none⟩=some (.slice (some ⟨b,off,none⟩) N cf)/\w'.cell? ⟨wr.heap.size,1,none⟩=some (.int .i64 f1)/\w'.cell? ⟨wr.heap.size,4,none⟩=some (.string f4)):=fun w' h9 =>
          ⟨h9,(h9.cell (p:=⟨w.heap.size,0,none⟩) hzF).trans q0,(h9.cell (p:=⟨w.heap.size,1,none⟩) hzF).trans q1,(h9.cell (p:=⟨wr.heap.size,1,none⟩) hFz).trans k1,(h9.cell (p:=⟨wr.heap.size,4,none⟩) hFz).trans k4⟩
         have CD':Hid (∀ w',Below wF.heap.size wF w'->Calls Tryz.prog 63 #[.agg #[.slice ad k cd,.slice (some ⟨b,off,none⟩) N cf],.int .i64 f1] w' fun e w3=>e=.returned (.string X)/\Below w'.heap.size w' w3):=fun w' h9=>CD.out w' (bch B10 h9 (nl _))
         clear hF a0 a1 a0' a1' q0 q1 c0 c1 c2 c3 c4 CD CN CW BF HF HD HUk
         obtain ⟨Fb,hFb⟩:∃ Fb,wr.heap.size=Fb:=⟨_,rfl⟩
         rw [hFb] at HS k1 k2 k3 k4 hFz |-
         clear hFb;by_cases hE:E=0
         ·have CU':Hid (∀ w',Calls Tryz.prog 62 #[.string X,.string f4] w' fun e w2=>e=.returned (.tuple #[.string T,.bool true])/\Below w'.heap.size w' w2):=fun w'=>(CU.out w').mono (by
           rintro e w2 ⟨x,rfl,h1,_,G⟩
           exact ⟨by rw [h1 hE,decide_eq_true hE],G⟩)
          have hT:=HZ.out hE;have hT':(T.size:Int)<=512:=by omega
          have C6:Hid (∀ w',Calls Tryz.prog 64 #[.string T] w' fun e w2=>e=.returned (.int .i64 (Ar.sm T))/\w2=w'):=fun w'=>Zev T w' (by omega)
          have HE':Hid (ok=decide ((T.size:Int)=f2/\Ar.sm T=f3)):=by show _=_;rw [HE.out];simp [hE]
          clear CU HE HZ hE;generalize Ar.sm T=M at *;go_wp2_with fail
          go_region_held3 (fun w'=>Below wF.heap.size wF w'/\w'.cell? ⟨w.heap.size,0,none⟩=some (.slice ad k cd)/\w'.cell? ⟨w.heap.size,1,none⟩=some (.slice (some ⟨b,off,none⟩) N cf)/\w'.cell? ⟨Fb,1,none⟩=some (.int .i64 f1)/\w'.cell? ⟨Fb,4,none⟩=some (.string f4))
           (first | (exact HS.out _ ((bR _ _).drew)) | (exact HS.out _ (bch (And.left (by assumption)) G6 (nl _))) | (exact HS.out _ (bch (And.left (by assumption)) G5 (nl _))))
           (first
            | (go_at_call 63;refine (CD'.out _ ?_).mono ?_;exact And.left (by assumption);rintro e w5 ⟨rfl,G5⟩)
            | (go_at_call 62;refine (CU'.out _).mono ?_;rintro e w6 ⟨rfl,G6⟩))
          all_goals
           have B12:Below wF.heap.size wF w6:=bch (bch ((bR _ _).drew) G5 (nl _)) G6 (nl _);have n2:=(B12.cell (p:=⟨Fb,2,none⟩) hFz).trans k2;have n3:=(B12.cell (p:=⟨Fb,3,none⟩) hFz).trans k3;have B13:=bch B10 B12 (nl _);have B14:=bch B11 B12 (nl _)
           have B15:Hid (∀ n,Below w.heap.size w (w6.drewN n)/\Below w1.heap.size w1 (w6.drewN n)):=fun n=>⟨below_drewN B13 n,below_drewN B14 n⟩
           clear G5 G6 HS CD' CU' k1 k2 k3 k4 B10 B11 B12 B13 B14;by_cases h2:(T.size:Int)=f2
           ·by_cases h3:M=f3
            ·have hok:Hid (Ar.okAt a m=true):=HO.out true (by rw [HE'.out];exact zdT ⟨h2,h3⟩);have e3:(M == f3)=true:=by simpa using h3
             have e4:(M != f3)=false:=by simpa using h3
             have e5:((T.size:Int) == f2)=true:=by simpa using h2
             have e6:((T.size:Int) != f2)=false:=by simpa using h2
             subst h3 h2;clear HE' HO;go_wp2_with fail
             go_quiet ((go_at_call 64;exact Calls.quiet_of_same (C6.out _)))
             all_goals
              go_wp2_with fail
              go_roundw
              case rel=>exact ⟨m+1,by omega,by go_num,HGn.out hok.out,(B15.out _).2⟩
              case measure=>simp [intOf];omega
            ·have hok:Hid (c=1):=HC1.out (HO.out false (by rw [HE'.out];exact dF (fun h=>h3 h.2)));have e3:(M == f3)=false:=by simpa using h3
             have e4:(M != f3)=true:=by simpa using h3
             have e5:decide (M=f3)=false:=dF h3;subst h2;clear HE' HO h3;go_wp2_with fail
             go_quiet ((go_at_call 64;exact Calls.quiet_of_same (C6.out _)))
             all_goals
              go_wp2_with fail
              go_ret
              exact HQ.out hok.out _ (B15.out _).1
           ·have hok:Hid (c=1):=HC1.out (HO.out false (by rw [HE'.out];exact dF (fun h=>h2 h.1)));have e3:((T.size:Int) == f2)=false:=by simpa using h2
            have e4:((T.size:Int) != f2)=true:=by simpa using h2
            have e5:decide ((T.size:Int)=f2)=false:=dF h2;clear HE' HO h2 C6;go_wp2_with fail
            go_quiet (fail)
            all_goals
             go_wp2_with fail
             go_ret
             exact HQ.out hok.out _ (B15.out _).1
         ·have CU':Hid (∀ w',Calls Tryz.prog 62 #[.string X,.string f4] w' fun e w2=>∃ x,e=.returned (.tuple #[.string x,.bool false])/\Below w'.heap.size w' w2):=fun w'=>(CU.out w').mono (by
           rintro e w2 ⟨x,rfl,_,_,G⟩
           exact ⟨x,by rw [decide_eq_false hE],G⟩)
          have hok:Hid (c=1):=HC1.out (HO.out false (by rw [HE.out];exact dF (fun h=>hE h.1)));clear CU HE HZ hE HO;go_wp2_with fail
          go_region_held3 (fun w'=>Below wF.heap.size wF w'/\w'.cell? ⟨w.heap.size,0,none⟩=some (.slice ad k cd)/\w'.cell? ⟨w.heap.size,1,none⟩=some (.slice (some ⟨b,off,none⟩) N cf)/\w'.cell? ⟨Fb,1,none⟩=some (.int .i64 f1)/\w'.cell? ⟨Fb,4,none⟩=some (.string f4))
           (first | (exact HS.out _ ((bR _ _).drew)) | (exact HS.out _ (bch (And.left (by assumption)) G6 (nl _))) | (exact HS.out _ (bch (And.left (by assumption)) G5 (nl _))))
           (first
            | (go_at_call 63;refine (CD'.out _ ?_).mono ?_;exact And.left (by assumption);rintro e w5 ⟨rfl,G5⟩)
            | (go_at_call 62;refine (CU'.out _).mono ?_;rintro e w6 ⟨x,rfl,G6⟩))
          all_goals
           have B13:=bch B10 (bch (bch ((bR _ _).drew) G5 (nl _)) G6 (nl _)) (nl _);have B15:Hid (∀ n,Below w.heap.size w (w6.drewN n)):=fun n=>below_drewN B13 n
           clear G5 G6 HS CD' CU' k1 k2 k3 k4 B10 B11 B13;go_wp2_with fail
           go_quiet (fail)
           all_goals
            go_wp2_with fail
            go_ret
            exact HQ.out hok.out _ (B15.out _)
      ·have d3:decide ((0:Int)<(m:Int))=true:=by simp;omega
       have d3':decide (0<m)=true:=by simp;omega
       have hw1:IntKind.i64.wrap ((m:Int) - 1)=(m:Int) - 1:=IntWalk.i64_in _ ⟨by omega,by omega⟩;obtain ⟨b',off',hbo,_,hprev⟩:=HF.out wr B3 (m - 1) (by omega);simp only [Option.some.injEq,Addr.mk.injEq,and_true] at hbo;obtain ⟨rfl,rfl⟩:=hbo;have p0:=hprev.c0;have p0':wr.cell? ⟨b,off+((m:Int) - 1).toNat*5,none⟩=some (.string (Ar.fa a.files (m - 1)).name):=by rw [show ((m:Int) - 1).toNat=m - 1 by omega];exact p0
       clear hprev
       cases hbl1:Tr.bl (Ar.fa a.files (m - 1)).name (Ar.fa a.files m).name with
       | false =>
        have hord:(decide (m=0) || Tr.bl (Ar.fa a.files (m - 1)).name (Ar.fa a.files m).name)=false:=by rw [decide_eq_false hm0,hbl1];rfl
        have hg:Hid (c=1):=HC1.out (by rw [HP.out true false _ hnm hord rfl];rfl);clear hnm HP HC1 CW hord;unfold Tr.bl at hbl1;generalize (Ar.fa a.files (m - 1)).name=f9 at *;generalize (Ar.fa a.files m).name=f0 at *;generalize (Ar.fa a.files m).dict=f1 at *;generalize (Ar.fa a.files m).size=f2 at *;generalize (Ar.fa a.files m).sum=f3 at *;generalize (Ar.fa a.files m).blk=f4 at *;go_wp2_with fail
        go_quiet ((go_at_call 56;exact Calls.quiet_of_same (CN.out _)))
        all_goals
         go_wp2_with fail
         go_ret
         exact HQ.out hg.out _ (BF.out _ _)
       | true =>
        have hord:(decide (m=0) || Tr.bl (Ar.fa a.files (m - 1)).name (Ar.fa a.files m).name)=true:=by rw [decide_eq_false hm0,hbl1];rfl
        unfold Tr.bl at hbl1;generalize (Ar.fa a.files (m - 1)).name=f9 at *
        cases hhas:Ar.has a.dicts (Ar.fa a.files m).dict with
        | false =>
         have hg:Hid (c=1):=HC1.out (by rw [HP.out true true false hnm hord (by unfold Ar.okf;rw [hhas];rfl)];rfl);rw [hhas] at CW;clear hnm HP HC1 hhas hord;generalize (Ar.fa a.files m).name=f0 at *;generalize (Ar.fa a.files m).dict=f1 at *;generalize (Ar.fa a.files m).size=f2 at *;generalize (Ar.fa a.files m).sum=f3 at *;generalize (Ar.fa a.files m).blk=f4 at *;go_wp2_with fail
         go_quiet (first | (go_at_call 56;exact Calls.quiet_of_same (CN.out _)) | (go_at_call 57;exact Calls.quiet_of_same (CW.out _)))
         all_goals
          go_wp2_with fail
          go_ret
          exact HQ.out hg.out _ (BF.out _ _)
        | true =>
         have CD:Hid (∀ w',Below w.heap.size w w'->Calls Tryz.prog 63 #[.agg #[.slice ad k cd,.slice (some ⟨b,off,none⟩) N cf],.int .i64 (Ar.fa a.files m).dict] w' fun e w3=>e=.returned (.string (Ar.dct a.dicts (Ar.fa a.files m).dict))/\Below w'.heap.size w' w3):=HD.out _ hhas;have CU:Hid (∀ w',Calls Tryz.prog 62 #[.string (Ar.dct a.dicts (Ar.fa a.files m).dict),.string (Ar.fa a.files m).blk] w' fun e w3=>ZaX (Ar.up a.dicts (Ar.fa a.files m)) w' e w3):=HUk.out m;have HO:Hid (∀ z,Ar.okf a.dicts (Ar.fa a.files m)=z->Ar.okAt a m=z):=fun z h9=>by rw [HP.out true true z hnm hord h9];rfl
         have HE:Hid (Ar.okf a.dicts (Ar.fa a.files m)=decide ((Ar.up a.dicts (Ar.fa a.files m)).2=0/\((Ar.up a.dicts (Ar.fa a.files m)).1.size:Int)=(Ar.fa a.files m).size/\Ar.sm (Ar.up a.dicts (Ar.fa a.files m)).1=(Ar.fa a.files m).sum)):=by show _=_;unfold Ar.okf;rw [hhas,Bool.true_and]
         have HZ:Hid ((Ar.up a.dicts (Ar.fa a.files m)).2=0->(Ar.up a.dicts (Ar.fa a.files m)).1.size<=512):=fun h9=>Bk.unp_size h9
         rw [hhas] at CW;have HGn:Hid (Ar.okAt a m=true->Ar.gdK a (m+1)=true):=fun h9=>by rw [Ar.gdK,HGm.out,h9];rfl
         clear hnm HP hhas hord;unfold ZaX at CU
         obtain ⟨U,hU⟩:∃ U,Ar.up a.dicts (Ar.fa a.files m)=U:=⟨_,rfl⟩
         simp only [hU] at CU HE HZ;obtain ⟨T,E⟩:=U;simp only at CU HE HZ;clear hU;generalize Ar.okf a.dicts (Ar.fa a.files m)=ok at *;generalize Ar.dct a.dicts (Ar.fa a.files m).dict=X at *;generalize (Ar.fa a.files m).name=f0 at *;generalize (Ar.fa a.files m).dict=f1 at *;generalize (Ar.fa a.files m).size=f2 at *;generalize (Ar.fa a.files m).sum=f3 at *;generalize (Ar.fa a.files m).blk=f4 at *;go_wp2_with fail
         go_quiet (first | (go_at_call 56;exact Calls.quiet_of_same (CN.out _)) | (go_at_call 57;exact Calls.quiet_of_same (CW.out _)))
         all_goals
          have hFs:wr.heap.size<(wr.alloc (.cells #[.string f0,.int .i64 f1,.int .i64 f2,.int .i64 f3,.string f4] 46 (0,0))).heap.size:=by simp
          have BA:Below wr.heap.size wr (wr.alloc (.cells #[.string f0,.int .i64 f1,.int .i64 f2,.int .i64 f3,.string f4] 46 (0,0))):=(bR _ _).alloc (nl _) _;have B9:=below_drewN (bR (wr.alloc (.cells #[.string f0,.int .i64 f1,.int .i64 f2,.int .i64 f3,.string f4] 46 (0,0))).heap.size (wr.alloc (.cells #[.string f0,.int .i64 f1,.int .i64 f2,.int .i64 f3,.string f4] 46 (0,0)))) nq;have hF:=fun i=>(B9.cell (p:=⟨wr.heap.size,i,none⟩) hFs).trans (cN wr #[.string f0,.int .i64 f1,.int .i64 f2,.int .i64 f3,.string f4] 46 i)
          have hFz:wr.heap.size<((wr.alloc (.cells #[.string f0,.int .i64 f1,.int .i64 f2,.int .i64 f3,.string f4] 46 (0,0))).drewN nq).heap.size:=nT hFs B9.size;have BA9:=bch BA B9 (nl _);clear BA B9 hFs;generalize (wr.alloc (.cells #[.string f0,.int .i64 f1,.int .i64 f2,.int .i64 f3,.string f4] 46 (0,0))).drewN nq=wF at *;have q0:=(BA9.cell (p:=⟨w.heap.size,0,none⟩) hz2).trans a0';have q1:=(BA9.cell (p:=⟨w.heap.size,1,none⟩) hz2).trans a1';have hzF:w.heap.size<wF.heap.size:=nT hz2 BA9.size;have k1:wF.cell? ⟨wr.heap.size,1,none⟩=some (.int .i64 f1):=hF 1;have k2:wF.cell? ⟨wr.heap.size,2,none⟩=some (.int .i64 f2):=hF 2;have k3:wF.cell? ⟨wr.heap.size,3,none⟩=some (.int .i64 f3):=hF 3;have k4:wF.cell? ⟨wr.heap.size,4,none⟩=some (.string f4):=hF 4;have B10:=bch B3 BA9 (nl _);have B11:=bch B2 BA9 (nl _)
          have HS:Hid (∀ w',Below wF.heap.size wF w'->Below wF.heap.size wF w'/\w'.cell? ⟨w.heap.size,0,none⟩=some (.slice ad k cd)/\w'.cell? ⟨w.heap.size,1,none⟩=some (.slice (some ⟨b,off,none⟩) N cf)/\w'.cell? ⟨wr.heap.size,1,none⟩=some (.int .i64 f1)/\w'.cell? ⟨wr.heap.size,4,none⟩=some (.string f4)):=fun w' h9 =>
           ⟨h9,(h9.cell (p:=⟨w.heap.size,0,none⟩) hzF).trans q0,(h9.cell (p:=⟨w.heap.size,1,none⟩) hzF).trans q1,(h9.cell (p:=⟨wr.heap.size,1,none⟩) hFz).trans k1,(h9.cell (p:=⟨wr.heap.size,4,none⟩) hFz).trans k4⟩
          have CD':Hid (∀ w',Below wF.heap.size wF w'->Calls Tryz.prog 63 #[.agg #[.slice ad k cd,.slice (some ⟨b,off,none⟩) N cf],.int .i64 f1] w' fun e w3=>e=.returned (.string X)/\Below w'.heap.size w' w3):=fun w' h9=>CD.out w' (bch B10 h9 (nl _))
          clear hF a0 a1 a0' a1' q0 q1 c0 c1 c2 c3 c4 CD CN CW BF HF HD HUk
          obtain ⟨Fb,hFb⟩:∃ Fb,wr.heap.size=Fb:=⟨_,rfl⟩
          rw [hFb] at HS k1 k2 k3 k4 hFz |-
          clear hFb;by_cases hE:E=0
          ·have CU':Hid (∀ w',Calls Tryz.prog 62 #[.string X,.string f4] w' fun e w2=>e=.returned (.tuple #[.string T,.bool true])/\Below w'.heap.size w' w2):=fun w'=>(CU.out w').mono (by
            rintro e w2 ⟨x,rfl,h1,_,G⟩
            exact ⟨by rw [h1 hE,decide_eq_true hE],G⟩)
           have hT:=HZ.out hE;have hT':(T.size:Int)<=512:=by omega
           have C6:Hid (∀ w',Calls Tryz.prog 64 #[.string T] w' fun e w2=>e=.returned (.int .i64 (Ar.sm T))/\w2=w'):=fun w'=>Zev T w' (by omega)
           have HE':Hid (ok=decide ((T.size:Int)=f2/\Ar.sm T=f3)):=by show _=_;rw [HE.out];simp [hE]
           clear CU HE HZ hE;generalize Ar.sm T=M at *;go_wp2_with fail
           go_region_held3 (fun w'=>Below wF.heap.size wF w'/\w'.cell? ⟨w.heap.size,0,none⟩=some (.slice ad k cd)/\w'.cell? ⟨w.heap.size,1,none⟩=some (.slice (some ⟨b,off,none⟩) N cf)/\w'.cell? ⟨Fb,1,none⟩=some (.int .i64 f1)/\w'.cell? ⟨Fb,4,none⟩=some (.string f4))
            (first | (exact HS.out _ ((bR _ _).drew)) | (exact HS.out _ (bch (And.left (by assumption)) G6 (nl _))) | (exact HS.out _ (bch (And.left (by assumption)) G5 (nl _))))
            (first
             | (go_at_call 63;refine (CD'.out _ ?_).mono ?_;exact And.left (by assumption);rintro e w5 ⟨rfl,G5⟩)
             | (go_at_call 62;refine (CU'.out _).mono ?_;rintro e w6 ⟨rfl,G6⟩))
           all_goals
            have B12:Below wF.heap.size wF w6:=bch (bch ((bR _ _).drew) G5 (nl _)) G6 (nl _);have n2:=(B12.cell (p:=⟨Fb,2,none⟩) hFz).trans k2;have n3:=(B12.cell (p:=⟨Fb,3,none⟩) hFz).trans k3;have B13:=bch B10 B12 (nl _);have B14:=bch B11 B12 (nl _)
            have B15:Hid (∀ n,Below w.heap.size w (w6.drewN n)/\Below w1.heap.size w1 (w6.drewN n)):=fun n=>⟨below_drewN B13 n,below_drewN B14 n⟩
            clear G5 G6 HS CD' CU' k1 k2 k3 k4 B10 B11 B12 B13 B14;by_cases h2:(T.size:Int)=f2
            ·by_cases h3:M=f3
             ·have hok:Hid (Ar.okAt a m=true):=HO.out true (by rw [HE'.out];exact zdT ⟨h2,h3⟩);have e3:(M == f3)=true:=by simpa using h3
              have e4:(M != f3)=false:=by simpa using h3
              have e5:((T.size:Int) == f2)=true:=by simpa using h2
              have e6:((T.size:Int) != f2)=false:=by simpa using h2
              subst h3 h2;clear HE' HO;go_wp2_with fail
              go_quiet ((go_at_call 64;exact Calls.quiet_of_same (C6.out _)))
              all_goals
               go_wp2_with fail
               go_roundw
               case rel=>exact ⟨m+1,by omega,by go_num,HGn.out hok.out,(B15.out _).2⟩
               case measure=>simp [intOf];omega
             ·have hok:Hid (c=1):=HC1.out (HO.out false (by rw [HE'.out];exact dF (fun h=>h3 h.2)));have e3:(M == f3)=false:=by simpa using h3
              have e4:(M != f3)=true:=by simpa using h3
              have e5:decide (M=f3)=false:=dF h3;subst h2;clear HE' HO h3;go_wp2_with fail
              go_quiet ((go_at_call 64;exact Calls.quiet_of_same (C6.out _)))
              all_goals
               go_wp2_with fail
               go_ret
               exact HQ.out hok.out _ (B15.out _).1
            ·have hok:Hid (c=1):=HC1.out (HO.out false (by rw [HE'.out];exact dF (fun h=>h2 h.1)));have e3:((T.size:Int) == f2)=false:=by simpa using h2
             have e4:((T.size:Int) != f2)=true:=by simpa using h2
             have e5:decide ((T.size:Int)=f2)=false:=dF h2;clear HE' HO h2 C6;go_wp2_with fail
             go_quiet (fail)
             all_goals
              go_wp2_with fail
              go_ret
              exact HQ.out hok.out _ (B15.out _).1
          ·have CU':Hid (∀ w',Calls Tryz.prog 62 #[.string X,.string f4] w' fun e w2=>∃ x,e=.returned (.tuple #[.string x,.bool false])/\Below w'.heap.size w' w2):=fun w'=>(CU.out w').mono (by
            rintro e w2 ⟨x,rfl,_,_,G⟩
            exact ⟨x,by rw [decide_eq_false hE],G⟩)
           have hok:Hid (c=1):=HC1.out (HO.out false (by rw [HE.out];exact dF (fun h=>hE h.1)));clear CU HE HZ hE HO;go_wp2_with fail
           go_region_held3 (fun w'=>Below wF.heap.size wF w'/\w'.cell? ⟨w.heap.size,0,none⟩=some (.slice ad k cd)/\w'.cell? ⟨w.heap.size,1,none⟩=some (.slice (some ⟨b,off,none⟩) N cf)/\w'.cell? ⟨Fb,1,none⟩=some (.int .i64 f1)/\w'.cell? ⟨Fb,4,none⟩=some (.string f4))
            (first | (exact HS.out _ ((bR _ _).drew)) | (exact HS.out _ (bch (And.left (by assumption)) G6 (nl _))) | (exact HS.out _ (bch (And.left (by assumption)) G5 (nl _))))
            (first
             | (go_at_call 63;refine (CD'.out _ ?_).mono ?_;exact And.left (by assumption);rintro e w5 ⟨rfl,G5⟩)
             | (go_at_call 62;refine (CU'.out _).mono ?_;rintro e w6 ⟨x,rfl,G6⟩))
           all_goals
            have B13:=bch B10 (bch (bch ((bR _ _).drew) G5 (nl _)) G6 (nl _)) (nl _);have B15:Hid (∀ n,Below w.heap.size w (w6.drewN n)):=fun n=>below_drewN B13 n
            clear G5 G6 HS CD' CU' k1 k2 k3 k4 B10 B11 B13;go_wp2_with fail
            go_quiet (fail)
            all_goals
             go_wp2_with fail
             go_ret
             exact HQ.out hok.out _ (B15.out _)
    ·obtain rfl:m=N:=by omega
     have d2:decide ((m:Int)<(m:Int))=false:=by simp
     have HR:Hid (c=0):=HGk.out HGm.out;go_wp2_with fail
     go_ret
     exact ⟨congrArg (fun x=>Ending.returned (Value.int .i64 x)) HR.out.symm,B3⟩
theorem Zs (ad af:Option Addr) (cd cf:Nat) (a:Ar.A) (w:World) (h:ArV w ad af a) (hs:SaneA a) :
 Calls Tryz.prog 19 #[av ad cd af cf a] w fun e w'=>e=.returned (.int .i64 (Ar.chk a))/\Below w.heap.size w w':=by
 by_cases hm:4<a.dicts.length\/12<a.files.length
 ·have e:Ar.chk a=2:=by
   have:Ar.many a=true:=by unfold Ar.many;rw [decide_eq_true hm];rfl
   unfold Ar.chk;rw [if_pos this]
  rw [e];exact ZfB ad af cd cf a w hs.nd hs.nf hm
 ·exact Zfd ad af cd cf a w h hs (by omega) (by omega)
theorem ZnY (ad af:Option Addr) (cd cf:Nat) (a:Ar.A) (name text:ByteArray) (dict:Int) (w:World) (h:ArV w ad af a) (hs:SaneA a) (hc:Ar.chk a ≠ 0) :
 Calls Tryz.prog 15 #[av ad cd af cf a,.string name,.string text,.int .i64 dict] w fun e w'=>ArSaid w Ar.az (Ar.chk a) e w':=by
 have C1:Hid (∀ w',Below w.heap.size w w'->Calls Tryz.prog 19 #[av ad cd af cf a] w' fun e w2=>e=.returned (.int .i64 (Ar.chk a))/\Below w'.heap.size w' w2):=fun w' h9=>Zs ad af cd cf a w' (h.below h9) hs
 have hQ:Hid (∀ w',Below w.heap.size w w'->ArSaid w Ar.az (Ar.chk a) (.returned (.tuple #[.agg #[.slice none 0 0,.slice none 0 0],.int .i64 (Ar.chk a)])) w'):=fun w' h9=>Zy h9
 generalize ArSaid w Ar.az (Ar.chk a)=Q at *;unfold av at C1 |-
 generalize Ar.chk a=E at *;have e1:(E != 0)=true:=by simpa using hc
 have e2:(E == 0)=false:=by simpa using hc
 clear hc;generalize a.dicts.length=D at *;generalize a.files.length=N at *;clear h hs;go_enter Tryz.func15,Tryz.ntmps15
 go_wp2_with fail
 refine (C1.out _ (Fr.start w _ _).b).mono ?_;rintro e w1 ⟨rfl,G1⟩;have F1:=(Fr.start w _ _).next G1;clear G1;obtain ⟨b,a0,a1,r0,r1,z0,z1,hz⟩:=id F1;go_wp2_with fail
 rw [F1.zero];exact bodyPost_ret (v:=.tuple #[.agg #[.slice none 0 0,.slice none 0 0],.int .i64 E]) (by simp [results,Tryz.results15,go_sem,F1.r0,F1.r1]) rfl (hQ.out _ F1.b)
theorem ZpV (ad af:Option Addr) (cd cf:Nat) (a:Ar.A) (name text:ByteArray) (dict:Int) (w:World) (h:ArV w ad af a) (hs:SaneA a) (hn:name.size<=140737488355328) (hc:Ar.chk a=0) (hm:Ar.isNm name=false) :
 Calls Tryz.prog 15 #[av ad cd af cf a,.string name,.string text,.int .i64 dict] w fun e w'=>ArSaid w Ar.az 4 e w':=by
 have C1:Hid (∀ w',Below w.heap.size w w'->Calls Tryz.prog 19 #[av ad cd af cf a] w' fun e w2=>e=.returned (.int .i64 (Ar.chk a))/\Below w'.heap.size w' w2):=fun w' h9=>Zs ad af cd cf a w' (h.below h9) hs
 have C2:Hid (∀ w',Calls Tryz.prog 56 #[.string name] w' fun e w2=>e=.returned (.bool (Ar.isNm name))/\w2=w'):=fun w'=>ZaE name w' hn
 have hQ:Hid (∀ w',Below w.heap.size w w'->ArSaid w Ar.az 4 (.returned (.tuple #[.agg #[.slice none 0 0,.slice none 0 0],.int .i64 4])) w'):=fun w' h9=>Zy h9
 generalize ArSaid w Ar.az 4=Q at *;rw [hc] at C1;rw [hm] at C2;clear hc hm hn;unfold av at C1 |-
 generalize a.dicts.length=D at *;generalize a.files.length=N at *;clear h hs;go_enter Tryz.func15,Tryz.ntmps15
 go_wp2_with fail
 refine (C1.out _ (Fr.start w _ _).b).mono ?_;rintro e w1 ⟨rfl,G1⟩;have F1:=(Fr.start w _ _).next G1;clear G1;obtain ⟨b,a0,a1,r0,r1,z0,z1,hz⟩:=id F1;go_wp2_with fail
 refine (C2.out _).mono ?_;rintro e w2 ⟨rfl,rfl⟩;go_wp2_with fail
 rw [F1.zero];exact bodyPost_ret (v:=.tuple #[.agg #[.slice none 0 0,.slice none 0 0],.int .i64 4]) (by simp [results,Tryz.results15,go_sem,F1.r0,F1.r1]) rfl (hQ.out _ F1.b)
theorem Zlj (ad af:Option Addr) (cd cf:Nat) (a:Ar.A) (name text:ByteArray) (dict:Int) (w:World) (h:ArV w ad af a) (hs:SaneA a) (hn:name.size<=140737488355328) (hc:Ar.chk a=0) (hm:Ar.isNm name=true) (hd:Ar.has a.dicts dict=false) :
 Calls Tryz.prog 15 #[av ad cd af cf a,.string name,.string text,.int .i64 dict] w fun e w'=>ArSaid w Ar.az 3 e w':=by
 have C1:Hid (∀ w',Below w.heap.size w w'->Calls Tryz.prog 19 #[av ad cd af cf a] w' fun e w2=>e=.returned (.int .i64 (Ar.chk a))/\Below w'.heap.size w' w2):=fun w' h9=>Zs ad af cd cf a w' (h.below h9) hs
 have C2:Hid (∀ w',Calls Tryz.prog 56 #[.string name] w' fun e w2=>e=.returned (.bool (Ar.isNm name))/\w2=w'):=fun w'=>ZaE name w' hn
 have C3:Hid (∀ w',Calls Tryz.prog 57 #[.int .i64 dict,.int .i64 0,.int .i64 (a.dicts.length:Nat)] w' fun e w2=>e=.returned (.bool (Ar.has a.dicts dict))/\w2=w'):=fun w'=>ZJ dict 0 (a.dicts.length:Nat) w'
 have hQ:Hid (∀ w',Below w.heap.size w w'->ArSaid w Ar.az 3 (.returned (.tuple #[.agg #[.slice none 0 0,.slice none 0 0],.int .i64 3])) w'):=fun w' h9=>Zy h9
 generalize ArSaid w Ar.az 3=Q at *;rw [hc] at C1;rw [hm] at C2;rw [hd] at C3;clear hc hm hn hd;unfold av at C1 |-
 generalize a.dicts.length=D at *;generalize a.files.length=N at *;clear h hs;go_enter Tryz.func15,Tryz.ntmps15
 go_wp2_with fail
 refine (C1.out _ (Fr.start w _ _).b).mono ?_;rintro e w1 ⟨rfl,G1⟩;have F1:=(Fr.start w _ _).next G1;clear G1;obtain ⟨b,a0,a1,r0,r1,z0,z1,hz⟩:=id F1;go_wp2_with fail
 refine (C2.out _).mono ?_;rintro e w2 ⟨rfl,rfl⟩;go_wp2_with fail
 refine (C3.out _).mono ?_;rintro e w3 ⟨rfl,rfl⟩;go_wp2_with fail
 rw [F1.zero];exact bodyPost_ret (v:=.tuple #[.agg #[.slice none 0 0,.slice none 0 0],.int .i64 3]) (by simp [results,Tryz.results15,go_sem,F1.r0,F1.r1]) rfl (hQ.out _ F1.b)
theorem ZkX (ad af:Option Addr) (cd cf:Nat) (a:Ar.A) (name text:ByteArray) (dict:Int) (w:World) (h:ArV w ad af a) (hs:SaneA a) (hn:name.size<=140737488355328) (hc:Ar.chk a=0) (hm:Ar.isNm name=true) (hd:Ar.has a.dicts dict=true) (hl:512<text.size) :
 Calls Tryz.prog 15 #[av ad cd af cf a,.string name,.string text,.int .i64 dict] w fun e w'=>ArSaid w Ar.az 2 e w':=by
 have C1:Hid (∀ w',Below w.heap.size w w'->Calls Tryz.prog 19 #[av ad cd af cf a] w' fun e w2=>e=.returned (.int .i64 (Ar.chk a))/\Below w'.heap.size w' w2):=fun w' h9=>Zs ad af cd cf a w' (h.below h9) hs
 have C2:Hid (∀ w',Calls Tryz.prog 56 #[.string name] w' fun e w2=>e=.returned (.bool (Ar.isNm name))/\w2=w'):=fun w'=>ZaE name w' hn
 have C3:Hid (∀ w',Calls Tryz.prog 57 #[.int .i64 dict,.int .i64 0,.int .i64 (a.dicts.length:Nat)] w' fun e w2=>e=.returned (.bool (Ar.has a.dicts dict))/\w2=w'):=fun w'=>ZJ dict 0 (a.dicts.length:Nat) w'
 have hQ:Hid (∀ w',Below w.heap.size w w'->ArSaid w Ar.az 2 (.returned (.tuple #[.agg #[.slice none 0 0,.slice none 0 0],.int .i64 2])) w'):=fun w' h9=>Zy h9
 generalize ArSaid w Ar.az 2=Q at *;rw [hc] at C1;rw [hm] at C2;rw [hd] at C3;have d1:decide ((512:Int)<(text.size:Int))=true:=zdT (by omega);have d1':decide (512<text.size)=true:=zdT hl;clear hc hm hn hd;unfold av at C1 |-
 generalize a.dicts.length=D at *;generalize a.files.length=N at *;clear h hs;go_enter Tryz.func15,Tryz.ntmps15
 go_wp2_with fail
 refine (C1.out _ (Fr.start w _ _).b).mono ?_;rintro e w1 ⟨rfl,G1⟩;have F1:=(Fr.start w _ _).next G1;clear G1;obtain ⟨b,a0,a1,r0,r1,z0,z1,hz⟩:=id F1;go_wp2_with fail
 refine (C2.out _).mono ?_;rintro e w2 ⟨rfl,rfl⟩;go_wp2_with fail
 refine (C3.out _).mono ?_;rintro e w3 ⟨rfl,rfl⟩;go_wp2_with fail
 rw [F1.zero];exact bodyPost_ret (v:=.tuple #[.agg #[.slice none 0 0,.slice none 0 0],.int .i64 2]) (by simp [results,Tryz.results15,go_sem,F1.r0,F1.r1]) rfl (hQ.out _ F1.b)
end Go.Proofs.YtbjbjbpgmojcbabGreat
