/- A part of the proof: what it leans on. -/
import Derived.Deep.RegionHeld3
import Derived.Deep.QuietTactic
import Derived.BigQuiet
import Derived.Deep.AppendLies
import Derived.Below
import Derived.Test.YtbjbjbpgmojcbabGreatBookT08
import Derived.Test.YtbjbjbpgmojcbabGreatBookT09
import Derived.Test.YtbjbjbpgmojcbabGreatBookT10
import Derived.Test.YtbjbjbpgmojcbabGreatBookT11
import Derived.Test.YtbjbjbpgmojcbabGreatBookT12
import Derived.Test.YtbjbjbpgmojcbabGreatBookT13
import Derived.Test.YtbjbjbpgmojcbabGreatBookT14
set_option maxRecDepth 8000
set_option maxHeartbeats 8000000
namespace Go.Proofs.YtbjbjbpgmojcbabGreat
open Go.RowKit
set_option linter.unusedVariables false
namespace Bk
def bst (text s:ByteArray):ByteArray:=if s.size<text.size then (⟨#[1]⟩:ByteArray)++s else (⟨#[0]⟩:ByteArray)++text
theorem min_bks (text s:ByteArray):mnK (bks text s) (bks text s).length=if s.size=0 then bst text s else if ((⟨#[2]⟩:ByteArray)++enc s).size<(bst text s).size then (⟨#[2]⟩:ByteArray)++enc s else bst text s:=by
 have e2:∀ r,mnK (((⟨#[0]⟩:ByteArray)++text) :: ((⟨#[1]⟩:ByteArray)++s) :: r) 2=bst text s:=by
  intro r
  rw [mnK,mnK_one]
  show (if ((⟨#[1]⟩:ByteArray)++s).size<((⟨#[0]⟩:ByteArray)++text).size then (⟨#[1]⟩:ByteArray)++s else (⟨#[0]⟩:ByteArray)++text)=_
  rw [one_size,one_size,bst]
  by_cases h:s.size<text.size
  · rw [if_pos (by omega),if_pos h]
  · rw [if_neg (by omega),if_neg h]
 unfold bks
 by_cases h0:s.size=0
 · rw [if_pos h0,if_pos h0]
   exact e2 []
 · rw [if_neg h0,if_neg h0]
   show mnK _ 3=_
   rw [mnK,e2]
   rfl
end Bk
theorem tokBytes_P (dict text:ByteArray) (hd:dict.size<=256) (ht:text.size<=512) (ad:Option Addr) (cap:Nat) (w:World) (h:SlAt w ad (Tk.P (dict++text) dict.size dict.size)) :
 Calls Tryz.prog 133 #[.slice ad (Tk.P (dict++text) dict.size dict.size).length cap] w fun e w'=>e=.returned (.string (Bk.tk dict text))/\Below w.heap.size w w' :=
 tokBytes_any ad cap _ w h (check_small (parse_plays dict text hd ht).1)
theorem packOf_110 (dict text s:ByteArray) (w:World) (hd:dict.size<=256) (ht:text.size<=512) (hS:Bk.tk dict text=s) (hs:s.size<=1024) (hp:s.size<text.size) (hz:s.size=0) :
 Calls Tryz.prog 96 #[.string dict,.string text] w fun e w'=>e=.returned (.string ((⟨#[1]⟩:ByteArray)++s))/\Below w.heap.size w w':=by
 have c1:=fun w=>parseOf_ok dict text w hd ht
 have c2:=fun ad cap w h=>tokBytes_P dict text hd ht ad cap w h
 rw [hS] at c2
 have c3:=fun w=>third_any s w hs
 have z2:=Bk.enc_size s hs
 have x0:=Bk.one_size 0 text
 have x1:=Bk.one_size 1 s
 have x2:=Bk.one_size 2 (Bk.enc s)
 generalize Tk.P (dict++text) dict.size dict.size=L at *
 generalize (⟨#[2]⟩:ByteArray)++Bk.enc s=T at *
 generalize Bk.enc s=En at *
 have hT:T.size<=20000:=by omega
 have hT':(T.size:Int)<=20000:=by omega
 have hs':(s.size:Int)<=1024:=by omega
 have ht':(text.size:Int)<=512:=by omega
 have hw1:wrap64 ((s.size:Int)+1)=(s.size:Int)+1:=w64 (by omega) (by omega)
 have hp1:decide ((s.size:Int)+1<(text.size:Int)+1)=true:=by simp;omega
 have hp3:decide ((s.size:Int)<(text.size:Int))=true:=by simp;omega
 have hp2:decide ((s.size:Int)+1<1+(text.size:Int))=true:=by simp;omega
 have hp4:(s.size:Int)+1<1+(text.size:Int):=by omega
 have hs0:s=⟨#[]⟩:=by
  apply ByteArray.ext
  exact Array.eq_empty_of_size_eq_zero hz
 have hem:s.toList.isEmpty=true:=by rw [hs0,ByteArray.toList_eq];rfl
 clear hs0 hS hz c3
 clear hp hd ht hs x0 x1
 go_enter Tryz.func96,Tryz.ntmps96
 go_wp2_with fail
 refine (c1 _).mono ?_
 rintro e w1 ⟨G1,ad,cap,rfl,S1⟩
 go_wp2_with fail
 refine (c2 ad cap _ S1).mono ?_
 rintro e w2 ⟨rfl,G2⟩
 have B2:=bch G1 G2 (Nat.le_refl _)
 clear G1 G2 S1 c1 c2
 go_wp2_with fail
 go_ret
 exact ⟨rfl,B2⟩
theorem packOf_100 (dict text s:ByteArray) (w:World) (hd:dict.size<=256) (ht:text.size<=512) (hS:Bk.tk dict text=s) (hs:s.size<=1024) (hp:¬ s.size<text.size) (hz:s.size=0) :
 Calls Tryz.prog 96 #[.string dict,.string text] w fun e w'=>e=.returned (.string ((⟨#[0]⟩:ByteArray)++text))/\Below w.heap.size w w':=by
 have c1:=fun w=>parseOf_ok dict text w hd ht
 have c2:=fun ad cap w h=>tokBytes_P dict text hd ht ad cap w h
 rw [hS] at c2
 have c3:=fun w=>third_any s w hs
 have z2:=Bk.enc_size s hs
 have x0:=Bk.one_size 0 text
 have x1:=Bk.one_size 1 s
 have x2:=Bk.one_size 2 (Bk.enc s)
 generalize Tk.P (dict++text) dict.size dict.size=L at *
 generalize (⟨#[2]⟩:ByteArray)++Bk.enc s=T at *
 generalize Bk.enc s=En at *
 have hT:T.size<=20000:=by omega
 have hT':(T.size:Int)<=20000:=by omega
 have hs':(s.size:Int)<=1024:=by omega
 have ht':(text.size:Int)<=512:=by omega
 have hw1:wrap64 ((s.size:Int)+1)=(s.size:Int)+1:=w64 (by omega) (by omega)
 have hp1:decide ((s.size:Int)+1<(text.size:Int)+1)=false:=by simp;omega
 have hp3:decide ((s.size:Int)<(text.size:Int))=false:=by simp;omega
 have hp2:decide ((s.size:Int)+1<1+(text.size:Int))=false:=by simp;omega
 have hp4:1+(text.size:Int)<=(s.size:Int)+1:=by omega
 have hs0:s=⟨#[]⟩:=by
  apply ByteArray.ext
  exact Array.eq_empty_of_size_eq_zero hz
 have hem:s.toList.isEmpty=true:=by rw [hs0,ByteArray.toList_eq];rfl
 clear hs0 hS hz c3
 clear hp hd ht hs x0 x1
 go_enter Tryz.func96,Tryz.ntmps96
 go_wp2_with fail
 refine (c1 _).mono ?_
 rintro e w1 ⟨G1,ad,cap,rfl,S1⟩
 go_wp2_with fail
 refine (c2 ad cap _ S1).mono ?_
 rintro e w2 ⟨rfl,G2⟩
 have B2:=bch G1 G2 (Nat.le_refl _)
 clear G1 G2 S1 c1 c2
 go_wp2_with fail
 go_ret
 exact ⟨rfl,B2⟩
theorem packOf_011 (dict text s:ByteArray) (w:World) (hd:dict.size<=256) (ht:text.size<=512) (hS:Bk.tk dict text=s) (hs:s.size<=1024) (hp:s.size<text.size) (hz:s.size ≠ 0) (hr:(Bk.enc s).size+1<s.size+1) :
 Calls Tryz.prog 96 #[.string dict,.string text] w fun e w'=>e=.returned (.string ((⟨#[2]⟩:ByteArray)++Bk.enc s))/\Below w.heap.size w w':=by
 have c1:=fun w=>parseOf_ok dict text w hd ht
 have c2:=fun ad cap w h=>tokBytes_P dict text hd ht ad cap w h
 rw [hS] at c2
 have c3:=fun w=>third_any s w hs
 have z2:=Bk.enc_size s hs
 have x0:=Bk.one_size 0 text
 have x1:=Bk.one_size 1 s
 have x2:=Bk.one_size 2 (Bk.enc s)
 generalize Tk.P (dict++text) dict.size dict.size=L at *
 generalize (⟨#[2]⟩:ByteArray)++Bk.enc s=T at *
 generalize Bk.enc s=En at *
 have hT:T.size<=20000:=by omega
 have hT':(T.size:Int)<=20000:=by omega
 have hs':(s.size:Int)<=1024:=by omega
 have ht':(text.size:Int)<=512:=by omega
 have hw1:wrap64 ((s.size:Int)+1)=(s.size:Int)+1:=w64 (by omega) (by omega)
 have hp1:decide ((s.size:Int)+1<(text.size:Int)+1)=true:=by simp;omega
 have hp3:decide ((s.size:Int)<(text.size:Int))=true:=by simp;omega
 have hp2:decide ((s.size:Int)+1<1+(text.size:Int))=true:=by simp;omega
 have hp4:(s.size:Int)+1<1+(text.size:Int):=by omega
 have hem:s.toList.isEmpty=false:=by
  rw [ByteArray.toList_eq]
  cases hq:s.data.toList with
  | nil=>exact absurd (by rw [<-Cd.size_list,hq];rfl) hz
  | cons a b=>rfl
 have hr1:decide ((T.size:Int)<1+(s.size:Int))=true:=by rw [x2];simp;omega
 have hr2:(T.size:Int)<1+(s.size:Int):=by omega
 clear hS hr hz x2 z2
 clear hp hd ht hs x0 x1
 go_enter Tryz.func96,Tryz.ntmps96
 go_wp2_with fail
 refine (c1 _).mono ?_
 rintro e w1 ⟨G1,ad,cap,rfl,S1⟩
 go_wp2_with fail
 refine (c2 ad cap _ S1).mono ?_
 rintro e w2 ⟨rfl,G2⟩
 have B2:=bch G1 G2 (Nat.le_refl _)
 clear G1 G2 S1 c1 c2
 go_wp2_with fail
 refine (c3 _).mono ?_
 rintro e w3 ⟨rfl,G3⟩
 have B3:=bch B2 G3 (Nat.le_refl _)
 clear B2 G3 c3
 go_wp2_with fail
 go_ret
 exact ⟨rfl,B3⟩
theorem packOf_010 (dict text s:ByteArray) (w:World) (hd:dict.size<=256) (ht:text.size<=512) (hS:Bk.tk dict text=s) (hs:s.size<=1024) (hp:s.size<text.size) (hz:s.size ≠ 0) (hr:¬ (Bk.enc s).size+1<s.size+1) :
 Calls Tryz.prog 96 #[.string dict,.string text] w fun e w'=>e=.returned (.string ((⟨#[1]⟩:ByteArray)++s))/\Below w.heap.size w w':=by
 have c1:=fun w=>parseOf_ok dict text w hd ht
 have c2:=fun ad cap w h=>tokBytes_P dict text hd ht ad cap w h
 rw [hS] at c2
 have c3:=fun w=>third_any s w hs
 have z2:=Bk.enc_size s hs
 have x0:=Bk.one_size 0 text
 have x1:=Bk.one_size 1 s
 have x2:=Bk.one_size 2 (Bk.enc s)
 generalize Tk.P (dict++text) dict.size dict.size=L at *
 generalize (⟨#[2]⟩:ByteArray)++Bk.enc s=T at *
 generalize Bk.enc s=En at *
 have hT:T.size<=20000:=by omega
 have hT':(T.size:Int)<=20000:=by omega
 have hs':(s.size:Int)<=1024:=by omega
 have ht':(text.size:Int)<=512:=by omega
 have hw1:wrap64 ((s.size:Int)+1)=(s.size:Int)+1:=w64 (by omega) (by omega)
 have hp1:decide ((s.size:Int)+1<(text.size:Int)+1)=true:=by simp;omega
 have hp3:decide ((s.size:Int)<(text.size:Int))=true:=by simp;omega
 have hp2:decide ((s.size:Int)+1<1+(text.size:Int))=true:=by simp;omega
 have hp4:(s.size:Int)+1<1+(text.size:Int):=by omega
 have hem:s.toList.isEmpty=false:=by
  rw [ByteArray.toList_eq]
  cases hq:s.data.toList with
  | nil=>exact absurd (by rw [<-Cd.size_list,hq];rfl) hz
  | cons a b=>rfl
 have hr1:decide ((T.size:Int)<1+(s.size:Int))=false:=by rw [x2];simp;omega
 have hr2:1+(s.size:Int)<=(T.size:Int):=by omega
 clear hS hr hz x2 z2
 clear hp hd ht hs x0 x1
 go_enter Tryz.func96,Tryz.ntmps96
 go_wp2_with fail
 refine (c1 _).mono ?_
 rintro e w1 ⟨G1,ad,cap,rfl,S1⟩
 go_wp2_with fail
 refine (c2 ad cap _ S1).mono ?_
 rintro e w2 ⟨rfl,G2⟩
 have B2:=bch G1 G2 (Nat.le_refl _)
 clear G1 G2 S1 c1 c2
 go_wp2_with fail
 refine (c3 _).mono ?_
 rintro e w3 ⟨rfl,G3⟩
 have B3:=bch B2 G3 (Nat.le_refl _)
 clear B2 G3 c3
 go_wp2_with fail
 go_ret
 exact ⟨rfl,B3⟩
theorem packOf_001 (dict text s:ByteArray) (w:World) (hd:dict.size<=256) (ht:text.size<=512) (hS:Bk.tk dict text=s) (hs:s.size<=1024) (hp:¬ s.size<text.size) (hz:s.size ≠ 0) (hr:(Bk.enc s).size+1<text.size+1) :
 Calls Tryz.prog 96 #[.string dict,.string text] w fun e w'=>e=.returned (.string ((⟨#[2]⟩:ByteArray)++Bk.enc s))/\Below w.heap.size w w':=by
 have c1:=fun w=>parseOf_ok dict text w hd ht
 have c2:=fun ad cap w h=>tokBytes_P dict text hd ht ad cap w h
 rw [hS] at c2
 have c3:=fun w=>third_any s w hs
 have z2:=Bk.enc_size s hs
 have x0:=Bk.one_size 0 text
 have x1:=Bk.one_size 1 s
 have x2:=Bk.one_size 2 (Bk.enc s)
 generalize Tk.P (dict++text) dict.size dict.size=L at *
 generalize (⟨#[2]⟩:ByteArray)++Bk.enc s=T at *
 generalize Bk.enc s=En at *
 have hT:T.size<=20000:=by omega
 have hT':(T.size:Int)<=20000:=by omega
 have hs':(s.size:Int)<=1024:=by omega
 have ht':(text.size:Int)<=512:=by omega
 have hw1:wrap64 ((s.size:Int)+1)=(s.size:Int)+1:=w64 (by omega) (by omega)
 have hp1:decide ((s.size:Int)+1<(text.size:Int)+1)=false:=by simp;omega
 have hp3:decide ((s.size:Int)<(text.size:Int))=false:=by simp;omega
 have hp2:decide ((s.size:Int)+1<1+(text.size:Int))=false:=by simp;omega
 have hp4:1+(text.size:Int)<=(s.size:Int)+1:=by omega
 have hem:s.toList.isEmpty=false:=by
  rw [ByteArray.toList_eq]
  cases hq:s.data.toList with
  | nil=>exact absurd (by rw [<-Cd.size_list,hq];rfl) hz
  | cons a b=>rfl
 have hr1:decide ((T.size:Int)<1+(text.size:Int))=true:=by rw [x2];simp;omega
 have hr2:(T.size:Int)<1+(text.size:Int):=by omega
 clear hS hr hz x2 z2
 clear hp hd ht hs x0 x1
 go_enter Tryz.func96,Tryz.ntmps96
 go_wp2_with fail
 refine (c1 _).mono ?_
 rintro e w1 ⟨G1,ad,cap,rfl,S1⟩
 go_wp2_with fail
 refine (c2 ad cap _ S1).mono ?_
 rintro e w2 ⟨rfl,G2⟩
 have B2:=bch G1 G2 (Nat.le_refl _)
 clear G1 G2 S1 c1 c2
 go_wp2_with fail
 refine (c3 _).mono ?_
 rintro e w3 ⟨rfl,G3⟩
 have B3:=bch B2 G3 (Nat.le_refl _)
 clear B2 G3 c3
 go_wp2_with fail
 go_ret
 exact ⟨rfl,B3⟩
theorem packOf_000 (dict text s:ByteArray) (w:World) (hd:dict.size<=256) (ht:text.size<=512) (hS:Bk.tk dict text=s) (hs:s.size<=1024) (hp:¬ s.size<text.size) (hz:s.size ≠ 0) (hr:¬ (Bk.enc s).size+1<text.size+1) :
 Calls Tryz.prog 96 #[.string dict,.string text] w fun e w'=>e=.returned (.string ((⟨#[0]⟩:ByteArray)++text))/\Below w.heap.size w w':=by
 have c1:=fun w=>parseOf_ok dict text w hd ht
 have c2:=fun ad cap w h=>tokBytes_P dict text hd ht ad cap w h
 rw [hS] at c2
 have c3:=fun w=>third_any s w hs
 have z2:=Bk.enc_size s hs
 have x0:=Bk.one_size 0 text
 have x1:=Bk.one_size 1 s
 have x2:=Bk.one_size 2 (Bk.enc s)
 generalize Tk.P (dict++text) dict.size dict.size=L at *
 generalize (⟨#[2]⟩:ByteArray)++Bk.enc s=T at *
 generalize Bk.enc s=En at *
 have hT:T.size<=20000:=by omega
 have hT':(T.size:Int)<=20000:=by omega
 have hs':(s.size:Int)<=1024:=by omega
 have ht':(text.size:Int)<=512:=by omega
 have hw1:wrap64 ((s.size:Int)+1)=(s.size:Int)+1:=w64 (by omega) (by omega)
 have hp1:decide ((s.size:Int)+1<(text.size:Int)+1)=false:=by simp;omega
 have hp3:decide ((s.size:Int)<(text.size:Int))=false:=by simp;omega
 have hp2:decide ((s.size:Int)+1<1+(text.size:Int))=false:=by simp;omega
 have hp4:1+(text.size:Int)<=(s.size:Int)+1:=by omega
 have hem:s.toList.isEmpty=false:=by
  rw [ByteArray.toList_eq]
  cases hq:s.data.toList with
  | nil=>exact absurd (by rw [<-Cd.size_list,hq];rfl) hz
  | cons a b=>rfl
 have hr1:decide ((T.size:Int)<1+(text.size:Int))=false:=by rw [x2];simp;omega
 have hr2:1+(text.size:Int)<=(T.size:Int):=by omega
 clear hS hr hz x2 z2
 clear hp hd ht hs x0 x1
 go_enter Tryz.func96,Tryz.ntmps96
 go_wp2_with fail
 refine (c1 _).mono ?_
 rintro e w1 ⟨G1,ad,cap,rfl,S1⟩
 go_wp2_with fail
 refine (c2 ad cap _ S1).mono ?_
 rintro e w2 ⟨rfl,G2⟩
 have B2:=bch G1 G2 (Nat.le_refl _)
 clear G1 G2 S1 c1 c2
 go_wp2_with fail
 refine (c3 _).mono ?_
 rintro e w3 ⟨rfl,G3⟩
 have B3:=bch B2 G3 (Nat.le_refl _)
 clear B2 G3 c3
 go_wp2_with fail
 go_ret
 exact ⟨rfl,B3⟩
theorem packOf_ok (dict text:ByteArray) (w:World) (hd:dict.size<=256) (ht:text.size<=512) :
 Calls Tryz.prog 96 #[.string dict,.string text] w fun e w'=>e=.returned (.string (Bk.pak dict text).1)/\Below w.heap.size w w':=by
 have e:(Bk.pak dict text).1=Bk.mnK (Bk.bks text (Bk.tk dict text)) (Bk.bks text (Bk.tk dict text)).length:=by rw [Bk.pak,if_neg (by omega)]
 rw [e,Bk.min_bks]
 have hs:=Bk.tk_size hd ht
 have h1:=Bk.one_size 1 (Bk.tk dict text)
 have h0:=Bk.one_size 0 text
 have h2:=Bk.one_size 2 (Bk.enc (Bk.tk dict text))
 unfold Bk.bst
 by_cases hp:(Bk.tk dict text).size<text.size
 · rw [if_pos hp]
   by_cases hz:(Bk.tk dict text).size=0
   · rw [if_pos hz]
     exact packOf_110 dict text _ w hd ht rfl hs hp hz
   · rw [if_neg hz]
     by_cases hr:(Bk.enc (Bk.tk dict text)).size+1<(Bk.tk dict text).size+1
     · rw [if_pos (by rw [h1,h2];exact hr)]
       exact packOf_011 dict text _ w hd ht rfl hs hp hz hr
     · rw [if_neg (by rw [h1,h2];exact hr)]
       exact packOf_010 dict text _ w hd ht rfl hs hp hz hr
 · rw [if_neg hp]
   by_cases hz:(Bk.tk dict text).size=0
   · rw [if_pos hz]
     exact packOf_100 dict text _ w hd ht rfl hs hp hz
   · rw [if_neg hz]
     by_cases hr:(Bk.enc (Bk.tk dict text)).size+1<text.size+1
     · rw [if_pos (by rw [h0,h2];exact hr)]
       exact packOf_001 dict text _ w hd ht rfl hs hp hz hr
     · rw [if_neg (by rw [h0,h2];exact hr)]
       exact packOf_000 dict text _ w hd ht rfl hs hp hz hr
end Go.Proofs.YtbjbjbpgmojcbabGreat
namespace Go.Proofs.YtbjbjbpgmojcbabGreat
open Go.RowKit
theorem packed_any (ad af:Option Addr) (cd cf:Nat) (a:Ar.A) (name text:ByteArray) (dict:Int) (w:World) (h:TxSl w ad a.dicts) (hl:a.dicts.length<=8796093022208) (hh:Ar.has a.dicts dict=true) (hd:(Ar.dct a.dicts dict).size<=256) (ht:text.size<=512) :
 Calls Tryz.prog 58 #[av ad cd af cf a,.string name,.string text,.int .i64 dict] w fun e w'=>e=.returned (fv (Ar.pk a.dicts name text dict))/\Below w.heap.size w w':=by
 have hb:=fun o p=>((Below.refl w.heap.size w).alloc (Nat.le_refl _) o).alloc (by simp) p
 have C1:Hid (∀ w',Below w.heap.size w w'->Calls Tryz.prog 63 #[av ad cd af cf a,.int .i64 dict] w' fun e w2=>e=.returned (.string (Ar.dct a.dicts dict))/\Below w'.heap.size w' w2):=fun w' h9=>dictOf_any ad af cd cf a dict w' (h.below h9) hl hh
 have C2:Hid (∀ w',Calls Tryz.prog 96 #[.string (Ar.dct a.dicts dict),.string text] w' fun e w2=>e=.returned (.string (Bk.pak (Ar.dct a.dicts dict) text).1)/\Below w'.heap.size w' w2):=fun w'=>packOf_ok _ _ w' hd ht
 have C3:Hid (∀ w',Calls Tryz.prog 64 #[.string text] w' fun e w2=>e=.returned (.int .i64 (Ar.sm text))/\Below w'.heap.size w' w2):=fun w'=>(sumOf_any text w' (by omega)).mono (by rintro e w2 ⟨rfl,rfl⟩;exact ⟨rfl,Below.refl _ _⟩)
 unfold fv Ar.pk
 simp only
 unfold av at C1 |-
 generalize (Bk.pak (Ar.dct a.dicts dict) text).1=K at *
 generalize Ar.dct a.dicts dict=X at *
 generalize Ar.sm text=M at *
 clear h hh hd
 generalize a.dicts.length=D at *
 generalize a.files.length=N at *
 have hti:(text.size:Int)<=512:=by omega
 go_enter Tryz.func58,Tryz.ntmps58
 go_wp2_with fail
 obtain ⟨kA,kF⟩:=box2 w #[.slice ad D cd,.slice af N cf] #[.string ⟨#[]⟩,.int .i64 0,.int .i64 0,.int .i64 0,.string ⟨#[]⟩] 25 46
 have fz:∀ i,((w.alloc (.cells #[.slice ad D cd,.slice af N cf] 25 (0,0))).alloc (.cells #[.string ⟨#[]⟩,.int .i64 0,.int .i64 0,.int .i64 0,.string ⟨#[]⟩] 46 (0,0))).frozen? ⟨w.heap.size+1,i,none⟩=false:=fun i=>World.frozen?_alloc_at _ _ _ _ (by simp)
 have B1:=hb (.cells #[.slice ad D cd,.slice af N cf] 25 (0,0)) (.cells #[.string ⟨#[]⟩,.int .i64 0,.int .i64 0,.int .i64 0,.string ⟨#[]⟩] 46 (0,0))
 have hz:w.heap.size+1<((w.alloc (.cells #[.slice ad D cd,.slice af N cf] 25 (0,0))).alloc (.cells #[.string ⟨#[]⟩,.int .i64 0,.int .i64 0,.int .i64 0,.string ⟨#[]⟩] 46 (0,0))).heap.size:=by simp
 generalize ((w.alloc (.cells #[.slice ad D cd,.slice af N cf] 25 (0,0))).alloc (.cells #[.string ⟨#[]⟩,.int .i64 0,.int .i64 0,.int .i64 0,.string ⟨#[]⟩] 46 (0,0)))=w1 at *
 have hz0:w.heap.size<w1.heap.size:=by omega
 have HS:Hid (∀ w',Below w1.heap.size w1 w'->w'.cell? ⟨w.heap.size,0,none⟩=some (.slice ad D cd)/\w'.cell? ⟨w.heap.size,1,none⟩=some (.slice af N cf)):=fun w' h9=>⟨(h9.cell (p:=⟨w.heap.size,0,none⟩) hz0).trans (kA 0),(h9.cell (p:=⟨w.heap.size,1,none⟩) hz0).trans (kA 1)⟩
 have HK:Hid (∀ w',Below w1.heap.size w1 w'->w'.cell? ⟨w.heap.size+1,0,none⟩=some (.string ⟨#[]⟩)/\w'.cell? ⟨w.heap.size+1,1,none⟩=some (.int .i64 0)/\w'.cell? ⟨w.heap.size+1,2,none⟩=some (.int .i64 0)/\w'.cell? ⟨w.heap.size+1,3,none⟩=some (.int .i64 0)/\w'.cell? ⟨w.heap.size+1,4,none⟩=some (.string ⟨#[]⟩)
  ∧ w'.frozen? ⟨w.heap.size+1,0,none⟩=false/\w'.frozen? ⟨w.heap.size+1,1,none⟩=false/\w'.frozen? ⟨w.heap.size+1,2,none⟩=false/\w'.frozen? ⟨w.heap.size+1,3,none⟩=false/\w'.frozen? ⟨w.heap.size+1,4,none⟩=false):=fun w' h9 =>
  ⟨(h9.cell (p:=⟨w.heap.size+1,0,none⟩) hz).trans (kF 0),(h9.cell (p:=⟨w.heap.size+1,1,none⟩) hz).trans (kF 1),(h9.cell (p:=⟨w.heap.size+1,2,none⟩) hz).trans (kF 2),(h9.cell (p:=⟨w.heap.size+1,3,none⟩) hz).trans (kF 3),(h9.cell (p:=⟨w.heap.size+1,4,none⟩) hz).trans (kF 4),
   (h9.frozen (p:=⟨w.heap.size+1,0,none⟩) hz).trans (fz 0),(h9.frozen (p:=⟨w.heap.size+1,1,none⟩) hz).trans (fz 1),(h9.frozen (p:=⟨w.heap.size+1,2,none⟩) hz).trans (fz 2),(h9.frozen (p:=⟨w.heap.size+1,3,none⟩) hz).trans (fz 3),(h9.frozen (p:=⟨w.heap.size+1,4,none⟩) hz).trans (fz 4)⟩
 have HS5:Hid (∀ w',Below w1.heap.size w1 w'->(fun w9=>w9.cell? ⟨w.heap.size,0,none⟩=some (.slice ad D cd)/\w9.cell? ⟨w.heap.size,1,none⟩=some (.slice af N cf)) (w5s w' (w.heap.size+1) 0 (.string name) (.int .i64 dict) (.int .i64 (text.size:Int)) (.int .i64 M) (.string K))):=fun w' h9=>by
  obtain ⟨e0,e1⟩:=HS.out w' h9
  have gr:=w5s_grown w' (w.heap.size+1) 0 (.string name) (.int .i64 dict) (.int .i64 (text.size:Int)) (.int .i64 M) (.string K)
  exact ⟨cell_keep gr e0 (by simp),cell_keep gr e1 (by simp)⟩
 have C1':Hid (∀ w',Below w1.heap.size w1 w'->Calls Tryz.prog 63 #[.agg #[.slice ad D cd,.slice af N cf],.int .i64 dict] w' fun e w2=>e=.returned (.string X)/\Below w'.heap.size w' w2):=fun w' h9=>C1.out w' (bch B1 h9 (Nat.le_refl _))
 clear kA kF fz C1
 unfold w5s at HS5
 simp only [Nat.zero_add] at HS5
 go_region_held3 (fun w'=>w'.cell? ⟨w.heap.size,0,none⟩=some (.slice ad D cd)/\w'.cell? ⟨w.heap.size,1,none⟩=some (.slice af N cf))
  (first | (exact HS.out _ ((Below.refl _ _).drew)) | (exact HS.out _ B4) | (exact HS.out _ B5) | (exact HS.out _ B6) | (exact HS5.out _ B6))
  (first
   | (go_at_call 64;refine (C3.out _).mono ?_;rintro e w4 ⟨rfl,G4⟩;have B4:Below w1.heap.size w1 w4:=bch ((Below.refl _ _).drew) G4 (Nat.le_refl _))
   | (go_at_call 63;refine (C1'.out _ B4).mono ?_;rintro e w5 ⟨rfl,G5⟩;have B5:Below w1.heap.size w1 w5:=bch B4 G5 (Nat.le_refl _))
   | (go_at_call 96;refine (C2.out _).mono ?_;rintro e w6 ⟨rfl,G6⟩;have B6:Below w1.heap.size w1 w6:=bch B5 G6 (Nat.le_refl _);obtain ⟨l0,l1,l2,l3,l4,lf0,lf1,lf2,lf3,lf4⟩:=HK.out w6 B6))
 all_goals
  obtain ⟨k0,k1,k2,k3,k4⟩:=set5 (o:=0) (.string name) (.int .i64 dict) (.int .i64 (text.size:Int)) (.int .i64 M) (.string K) l0 l1 l2 l3 l4
  have B7:=belowW5 (bch B1 B6 (Nat.le_refl _)) (w.heap.size+1) 0 (.string name) (.int .i64 dict) (.int .i64 (text.size:Int)) (.int .i64 M) (.string K) (by omega)
  unfold w5s at k0 k1 k2 k3 k4 B7
  simp only [Nat.zero_add] at k0 k1 k2 k3 k4 B7
  generalize (((((w6.setCell ⟨w.heap.size+1,0,none⟩ (.string name)).setCell ⟨w.heap.size+1,1,none⟩ (.int .i64 dict)).setCell ⟨w.heap.size+1,2,none⟩ (.int .i64 (text.size:Int))).setCell ⟨w.heap.size+1,3,none⟩ (.int .i64 M)).setCell ⟨w.heap.size+1,4,none⟩ (.string K))=wz at *
  clear l0 l1 l2 l3 l4 lf0 lf1 lf2 lf3 lf4 HS5 HS HK B6 B5 B4 G4 G5 G6
  go_wp2_with fail
  exact bodyPost_ret (v:=.agg #[.string name,.int .i64 dict,.int .i64 (text.size:Int),.int .i64 M,.string K]) (by simp [results,Tryz.results58,go_sem,k0,k1,k2,k3,k4]) rfl ⟨rfl,B7⟩
end Go.Proofs.YtbjbjbpgmojcbabGreat
namespace Go.Proofs.YtbjbjbpgmojcbabGreat
open Go.RowKit
theorem checkArch_len (ad af:Option Addr) (cd cf:Nat) (a:Ar.A) (w:World) (hn1:a.dicts.length<=8796093022208) (hn2:a.files.length<=8796093022208) (hm:4<a.dicts.length\/12<a.files.length) :
 Calls Tryz.prog 19 #[av ad cd af cf a] w fun e w'=>e=.returned (.int .i64 2)/\Below w.heap.size w w':=by
 have hb:=fun o=>(Below.refl w.heap.size w).alloc (Nat.le_refl _) o
 unfold av
 generalize a.dicts.length=D at *
 generalize a.files.length=N at *
 by_cases h4:4<D
 · have d1:decide ((4:Int)<(D:Int))=true:=by simp;omega
   have d1':decide (4<D)=true:=by simp;omega
   clear hm
   go_enter Tryz.func19,Tryz.ntmps19
   go_wp2_with fail
   go_ret
   exact ⟨rfl,hb _⟩
 · have d1:decide ((4:Int)<(D:Int))=false:=by simp;omega
   have d1':decide (4<D)=false:=by simp;omega
   have d2:decide ((12:Int)<(N:Int))=true:=by simp;omega
   have d2':decide (12<N)=true:=by simp;omega
   clear hm h4
   go_enter Tryz.func19,Tryz.ntmps19
   go_wp2_with fail
   go_ret
   exact ⟨rfl,hb _⟩
theorem checkArch_some (ad af:Option Addr) (cd cf:Nat) (a:Ar.A) (w:World) (h:ArV w ad af a) (hs:SaneA a) (m1:a.dicts.length<=4) (m2:a.files.length<=12) :
 Calls Tryz.prog 19 #[av ad cd af cf a] w fun e w'=>e=.returned (.int .i64 (Ar.chk a))/\Below w.heap.size w w':=by
 have hb:=fun o=>(Below.refl w.heap.size w).alloc (Nat.le_refl _) o
 have HX:Hid (∀ w',Below w.heap.size w w'->∀ k,k<a.dicts.length->∃ b off,ad=some ⟨b,off,none⟩/\b<w'.heap.size/\w'.cell? ⟨b,off+k,none⟩=some (.string (Tr.xa a.dicts k))):=fun w' hb k hk=>(h.ds.below hb).at hk
 have HF:Hid (∀ w',Below w.heap.size w w'->∀ k,k<a.files.length->∃ b off,af=some ⟨b,off,none⟩/\b<w'.heap.size/\FlC w' b (off+k*5) (Ar.fa a.files k)):=fun w' h9 k hk=>(h.fs.below h9).at hk
 have HL2:Hid (∀ k,k<a.dicts.length->Ar.lgK a.dicts k=none->256<(Tr.xa a.dicts k).size->Ar.chk a=2):=fun k hk hl hs=>by
  have h1:Ar.lgK a.dicts (k+1)=some k:=by rw [Ar.lgK,hl];exact if_pos hs
  have h9:=Ar.lgK_some h1 (a.dicts.length - (k+1))
  rw [show k+1+(a.dicts.length - (k+1))=a.dicts.length by omega] at h9
  have:Ar.many a=true:=by unfold Ar.many;rw [h9];simp
  unfold Ar.chk;rw [if_pos this]
 have HL0:Hid (∀ k,Ar.lgK a.dicts k=none->(Tr.xa a.dicts k).size<=256->Ar.lgK a.dicts (k+1)=none):=fun k hl hs=>by rw [Ar.lgK,hl];exact if_neg (by omega)
 have HM:Hid (Ar.lgK a.dicts a.dicts.length=none->Ar.many a=false):=fun hl=>by unfold Ar.many;rw [hl,decide_eq_false (by omega)];rfl
 have HB:Hid (Ar.many a=false->∀ k,k<a.files.length->Ar.okAt a k=false->Ar.chk a=1):=fun hm k hk ho=>by unfold Ar.chk;rw [hm,Ar.okAt_false hk ho];rfl
 have HG:Hid (Ar.many a=false->Ar.gdK a a.files.length=true->Ar.chk a=0):=fun hm hg=>Ar.chk_zero.2 ⟨hm,hg⟩
 have HD:Hid (∀ (n:Int),Ar.has a.dicts n=true->∀ w',Below w.heap.size w w'->Calls Tryz.prog 63 #[av ad cd af cf a,.int .i64 n] w' fun e w2=>e=.returned (.string (Ar.dct a.dicts n))/\Below w'.heap.size w' w2):=fun n hh w' h9=>dictOf_any ad af cd cf a n w' (h.ds.below h9) hs.nd hh
 have HU:Hid (Ar.many a=false->∀ k w',Calls Tryz.prog 62 #[.string (Ar.dct a.dicts (Ar.fa a.files k).dict),.string (Ar.fa a.files k).blk] w' fun e w2=>UnpSaid (Ar.up a.dicts (Ar.fa a.files k)) w' e w2):=fun hm k w'=>unpackOf_any _ _ w' (Ar.dct_size hm _) (hs.bk k)
 have HN:Hid (∀ k,(Ar.fa a.files k).name.size<=140737488355328):=hs.nm
 obtain ⟨c,hc⟩:∃ c,Ar.chk a=c:=⟨_,rfl⟩
 rw [hc] at HL2 HB HG
 rw [hc]
 clear hc h hs
 unfold av at HD |-
 obtain ⟨D,hD⟩:∃ D,a.dicts.length=D:=⟨_,rfl⟩
 obtain ⟨N,hN⟩:∃ N,a.files.length=N:=⟨_,rfl⟩
 simp only [hD,hN] at HX HF HL2 HM HB HG HD m1 m2 |-
 have HNN:Hid (a.files.length=N):=hN
 have HDD:Hid (a.dicts.length=D):=hD
 clear hN hD
 have hD':(D:Int)<=4:=by omega
 have hN':(N:Int)<=12:=by omega
 have e1:decide ((4:Int)<(D:Int))=false:=by simp;omega
 have e1':decide (4<D)=false:=by simp;omega
 have e2:decide ((12:Int)<(N:Int))=false:=by simp;omega
 have e2':decide (12<N)=false:=by simp;omega
 go_enter Tryz.func19,Tryz.ntmps19
 go_wp2_with fail
 have a0:(w.alloc (.cells #[.slice ad D cd,.slice af N cf] 25 (0,0))).cell? ⟨w.heap.size,0,none⟩=some (.slice ad D cd):=World.cell?_alloc_new _ _ _ 0
 have a1:(w.alloc (.cells #[.slice ad D cd,.slice af N cf] 25 (0,0))).cell? ⟨w.heap.size,1,none⟩=some (.slice af N cf):=World.cell?_alloc_new _ _ _ 1
 have B1:=hb (.cells #[.slice ad D cd,.slice af N cf] 25 (0,0))
 have hz1:w.heap.size<(w.alloc (.cells #[.slice ad D cd,.slice af N cf] 25 (0,0))).heap.size:=by simp
 generalize (w.alloc (.cells #[.slice ad D cd,.slice af N cf] 25 (0,0)))=w1 at *
 go_loopw [3] (fun i wr=>∃ k:Nat,k<=D/\i=.int .i64 k/\Hid (Ar.lgK a.dicts k=none)/\wr=w1) (fun i _=>D - (intOf i).toNat)
 case atStart=>exact ⟨0,by omega,rfl,rfl,rfl⟩
 case round =>
  obtain ⟨k,hk2,rfl,HL,hwr⟩:=hrel
  have hwr:=hwr.symm
  subst hwr
  by_cases hlt:k<D
  · have d1:decide ((k:Int)<(D:Int))=true:=by simp;omega
    have d1':decide (k<D)=true:=by simp;omega
    have hki:(k:Int)<(D:Int):=by omega
    obtain ⟨b,off,rfl,hbl,hcell⟩:=HX.out w1 B1 k hlt
    by_cases hs:256<(Tr.xa a.dicts k).size
    · have HR:Hid (c=2):=HL2.out k hlt HL.out hs
      have d2:decide ((256:Int)<((Tr.xa a.dicts k).size:Int))=true:=decide_eq_true (by omega)
      have d2':decide (256<(Tr.xa a.dicts k).size)=true:=decide_eq_true (by omega)
      clear HL
      generalize Tr.xa a.dicts k=X at *
      go_wp2_with fail
      go_ret
      exact ⟨congrArg (fun x=>Ending.returned (Value.int .i64 x)) HR.out.symm,B1⟩
    · have HN1:Hid (Ar.lgK a.dicts (k+1)=none):=HL0.out k HL.out (by omega)
      have d2:decide ((256:Int)<((Tr.xa a.dicts k).size:Int))=false:=decide_eq_false (by omega)
      have d2':decide (256<(Tr.xa a.dicts k).size)=false:=decide_eq_false (by omega)
      generalize Tr.xa a.dicts k=X at *
      clear hs
      go_wp2_with fail
      go_roundw
      case rel=>exact ⟨k+1,by omega,by go_num,HN1,by trivial⟩
      case measure=>simp [intOf];omega
  · obtain rfl:k=D:=by omega
    have d1:decide ((k:Int)<(k:Int))=false:=by simp
    have HMF:Hid (Ar.many a=false):=HM.out HL.out
    have HBk:Hid (∀ m,m<N->Ar.okAt a m=false->c=1):=HB.out HMF.out
    have HGk:Hid (Ar.gdK a N=true->c=0):=HG.out HMF.out
    have HUk:Hid (∀ m w',Calls Tryz.prog 62 #[.string (Ar.dct a.dicts (Ar.fa a.files m).dict),.string (Ar.fa a.files m).blk] w' fun e w2=>UnpSaid (Ar.up a.dicts (Ar.fa a.files m)) w' e w2):=HU.out HMF.out
    clear HL HM HL2 HL0 HB HG HU HMF HX
    go_wp2_with fail
    go_loopw [4] (fun i w2=>∃ m:Nat,m<=N/\i=.int .i64 m/\Hid (Ar.gdK a m=true)/\Below w1.heap.size w1 w2) (fun i _=>N - (intOf i).toNat)
    case atStart=>exact ⟨0,by omega,rfl,rfl,Below.refl _ _⟩
    case round =>
     obtain ⟨m,hm2,rfl,HGm,B2⟩:=hrel
     have a0':=(B2.cell (p:=⟨w.heap.size,0,none⟩) hz1).trans a0
     have a1':=(B2.cell (p:=⟨w.heap.size,1,none⟩) hz1).trans a1
     have B3:=bch B1 B2 (Nat.le_refl _)
     have hz2:w.heap.size<wr.heap.size:=Nat.lt_of_lt_of_le hz1 B2.size
     by_cases hlt:m<N
     · have d2:decide ((m:Int)<(N:Int))=true:=by simp;omega
       have d2':decide (m<N)=true:=by simp;omega
       have hmi:(m:Int)<(N:Int):=by omega
       obtain ⟨b,off,rfl,hbl,hcell⟩:=HF.out wr B3 m hlt
       obtain ⟨c0,c1,c2,c3,c4⟩:=hcell
       have CN:Hid (∀ w',Calls Tryz.prog 56 #[.string (Ar.fa a.files m).name] w' fun e w3=>e=.returned (.bool (Ar.isNm (Ar.fa a.files m).name))/\w3=w'):=fun w'=>isNameOf_any _ w' (HN.out m)
       have CW:Hid (∀ w',Calls Tryz.prog 57 #[.int .i64 (Ar.fa a.files m).dict,.int .i64 0,.int .i64 (k:Nat)] w' fun e w3=>e=.returned (.bool (Ar.has a.dicts (Ar.fa a.files m).dict))/\w3=w'):=fun w'=>by
        have:=within_any (Ar.fa a.files m).dict 0 (k:Nat) w'
        unfold Ar.has
        rw [HDD.out]
        exact this
       have HP:Hid (∀ x y z,Ar.isNm (Ar.fa a.files m).name=x->(decide (m=0) || Tr.bl (Ar.fa a.files (m - 1)).name (Ar.fa a.files m).name)=y->Ar.okf a.dicts (Ar.fa a.files m)=z->Ar.okAt a m=(x && y && z)):=fun x y z h1 h2 h3=>by unfold Ar.okAt;rw [h1,h2,h3]
       have HC1:Hid (Ar.okAt a m=false->c=1):=HBk.out m hlt
       have HQ:Hid (c=1->∀ w',Below w.heap.size w w'->(Ending.returned (.int .i64 1)=Ending.returned (.int .i64 c))/\Below w.heap.size w w'):=fun h1 w' h2=>⟨by rw [h1],h2⟩
       have BF:Hid (∀ o n,Below w.heap.size w ((wr.alloc o).drewN n)):=fun o n=>below_drewN (B3.alloc B3.size o) n
       cases hnm:Ar.isNm (Ar.fa a.files m).name with
       | false =>
        have hg:Hid (c=1):=HC1.out (by rw [HP.out false _ _ hnm rfl rfl];rfl)
        rw [hnm] at CN
        clear hnm HP HC1 CW
        generalize (Ar.fa a.files m).name=f0 at *
        generalize (Ar.fa a.files m).dict=f1 at *
        generalize (Ar.fa a.files m).size=f2 at *
        generalize (Ar.fa a.files m).sum=f3 at *
        generalize (Ar.fa a.files m).blk=f4 at *
        go_wp2_with fail
        go_quiet ((go_at_call 56;exact Calls.quiet_of_same (CN.out _)))
        all_goals
         go_wp2_with fail
         go_ret
         exact HQ.out hg.out _ (BF.out _ _)
       | true =>
        rw [hnm] at CN
        by_cases hm0:m=0
        · have d3:decide ((0:Int)<(m:Int))=false:=by simp;omega
          have d3':decide (0<m)=false:=by simp;omega
          have hord:(decide (m=0) || Tr.bl (Ar.fa a.files (m - 1)).name (Ar.fa a.files m).name)=true:=by rw [decide_eq_true hm0];rfl
          clear hm0
          cases hhas:Ar.has a.dicts (Ar.fa a.files m).dict with
          | false =>
           have hg:Hid (c=1):=HC1.out (by rw [HP.out true true false hnm hord (by unfold Ar.okf;rw [hhas];rfl)];rfl)
           rw [hhas] at CW
           clear hnm HP HC1 hhas hord
           generalize (Ar.fa a.files m).name=f0 at *
           generalize (Ar.fa a.files m).dict=f1 at *
           generalize (Ar.fa a.files m).size=f2 at *
           generalize (Ar.fa a.files m).sum=f3 at *
           generalize (Ar.fa a.files m).blk=f4 at *
           go_wp2_with fail
           go_quiet (first | (go_at_call 56;exact Calls.quiet_of_same (CN.out _)) | (go_at_call 57;exact Calls.quiet_of_same (CW.out _)))
           all_goals
            go_wp2_with fail
            go_ret
            exact HQ.out hg.out _ (BF.out _ _)
          | true =>
           have CD:Hid (∀ w',Below w.heap.size w w'->Calls Tryz.prog 63 #[.agg #[.slice ad k cd,.slice (some ⟨b,off,none⟩) N cf],.int .i64 (Ar.fa a.files m).dict] w' fun e w3=>e=.returned (.string (Ar.dct a.dicts (Ar.fa a.files m).dict))/\Below w'.heap.size w' w3):=HD.out _ hhas
           have CU:Hid (∀ w',Calls Tryz.prog 62 #[.string (Ar.dct a.dicts (Ar.fa a.files m).dict),.string (Ar.fa a.files m).blk] w' fun e w3=>UnpSaid (Ar.up a.dicts (Ar.fa a.files m)) w' e w3):=HUk.out m
           have HO:Hid (∀ z,Ar.okf a.dicts (Ar.fa a.files m)=z->Ar.okAt a m=z):=fun z h9=>by rw [HP.out true true z hnm hord h9];rfl
           have HE:Hid (Ar.okf a.dicts (Ar.fa a.files m)=decide ((Ar.up a.dicts (Ar.fa a.files m)).2=0/\((Ar.up a.dicts (Ar.fa a.files m)).1.size:Int)=(Ar.fa a.files m).size/\Ar.sm (Ar.up a.dicts (Ar.fa a.files m)).1=(Ar.fa a.files m).sum)):=by show _=_;unfold Ar.okf;rw [hhas,Bool.true_and]
           have HZ:Hid ((Ar.up a.dicts (Ar.fa a.files m)).2=0->(Ar.up a.dicts (Ar.fa a.files m)).1.size<=512):=fun h9=>Bk.unp_size h9
           rw [hhas] at CW
           have HGn:Hid (Ar.okAt a m=true->Ar.gdK a (m+1)=true):=fun h9=>by rw [Ar.gdK,HGm.out,h9];rfl
           clear hnm HP hhas hord
           unfold UnpSaid at CU
           obtain ⟨U,hU⟩:∃ U,Ar.up a.dicts (Ar.fa a.files m)=U:=⟨_,rfl⟩
           simp only [hU] at CU HE HZ
           obtain ⟨T,E⟩:=U
           simp only at CU HE HZ
           clear hU
           generalize Ar.okf a.dicts (Ar.fa a.files m)=ok at *
           generalize Ar.dct a.dicts (Ar.fa a.files m).dict=X at *
           generalize (Ar.fa a.files m).name=f0 at *
           generalize (Ar.fa a.files m).dict=f1 at *
           generalize (Ar.fa a.files m).size=f2 at *
           generalize (Ar.fa a.files m).sum=f3 at *
           generalize (Ar.fa a.files m).blk=f4 at *
           go_wp2_with fail
           go_quiet (first | (go_at_call 56;exact Calls.quiet_of_same (CN.out _)) | (go_at_call 57;exact Calls.quiet_of_same (CW.out _)))
           all_goals
            have hFs:wr.heap.size<(wr.alloc (.cells #[.string f0,.int .i64 f1,.int .i64 f2,.int .i64 f3,.string f4] 46 (0,0))).heap.size:=by simp
            have BA:Below wr.heap.size wr (wr.alloc (.cells #[.string f0,.int .i64 f1,.int .i64 f2,.int .i64 f3,.string f4] 46 (0,0))):=(Below.refl _ _).alloc (Nat.le_refl _) _
            have B9:=below_drewN (Below.refl (wr.alloc (.cells #[.string f0,.int .i64 f1,.int .i64 f2,.int .i64 f3,.string f4] 46 (0,0))).heap.size (wr.alloc (.cells #[.string f0,.int .i64 f1,.int .i64 f2,.int .i64 f3,.string f4] 46 (0,0)))) nq
            have hF:=fun i=>(B9.cell (p:=⟨wr.heap.size,i,none⟩) hFs).trans (World.cell?_alloc_new wr #[.string f0,.int .i64 f1,.int .i64 f2,.int .i64 f3,.string f4] 46 i)
            have hFz:wr.heap.size<((wr.alloc (.cells #[.string f0,.int .i64 f1,.int .i64 f2,.int .i64 f3,.string f4] 46 (0,0))).drewN nq).heap.size:=Nat.lt_of_lt_of_le hFs B9.size
            have BA9:=bch BA B9 (Nat.le_refl _)
            clear BA B9 hFs
            generalize (wr.alloc (.cells #[.string f0,.int .i64 f1,.int .i64 f2,.int .i64 f3,.string f4] 46 (0,0))).drewN nq=wF at *
            have q0:=(BA9.cell (p:=⟨w.heap.size,0,none⟩) hz2).trans a0'
            have q1:=(BA9.cell (p:=⟨w.heap.size,1,none⟩) hz2).trans a1'
            have hzF:w.heap.size<wF.heap.size:=Nat.lt_of_lt_of_le hz2 BA9.size
            have k1:wF.cell? ⟨wr.heap.size,1,none⟩=some (.int .i64 f1):=hF 1
            have k2:wF.cell? ⟨wr.heap.size,2,none⟩=some (.int .i64 f2):=hF 2
            have k3:wF.cell? ⟨wr.heap.size,3,none⟩=some (.int .i64 f3):=hF 3
            have k4:wF.cell? ⟨wr.heap.size,4,none⟩=some (.string f4):=hF 4
            have B10:=bch B3 BA9 (Nat.le_refl _)
            have B11:=bch B2 BA9 (Nat.le_refl _)
            have HS:Hid (∀ w',Below wF.heap.size wF w'->Below wF.heap.size wF w'/\w'.cell? ⟨w.heap.size,0,none⟩=some (.slice ad k cd)/\w'.cell? ⟨w.heap.size,1,none⟩=some (.slice (some ⟨b,off,none⟩) N cf)/\w'.cell? ⟨wr.heap.size,1,none⟩=some (.int .i64 f1)/\w'.cell? ⟨wr.heap.size,4,none⟩=some (.string f4)):=fun w' h9 =>
             ⟨h9,(h9.cell (p:=⟨w.heap.size,0,none⟩) hzF).trans q0,(h9.cell (p:=⟨w.heap.size,1,none⟩) hzF).trans q1,(h9.cell (p:=⟨wr.heap.size,1,none⟩) hFz).trans k1,(h9.cell (p:=⟨wr.heap.size,4,none⟩) hFz).trans k4⟩
            have CD':Hid (∀ w',Below wF.heap.size wF w'->Calls Tryz.prog 63 #[.agg #[.slice ad k cd,.slice (some ⟨b,off,none⟩) N cf],.int .i64 f1] w' fun e w3=>e=.returned (.string X)/\Below w'.heap.size w' w3):=fun w' h9=>CD.out w' (bch B10 h9 (Nat.le_refl _))
            clear hF a0 a1 a0' a1' q0 q1 c0 c1 c2 c3 c4 CD CN CW BF HF HD HUk
            obtain ⟨Fb,hFb⟩:∃ Fb,wr.heap.size=Fb:=⟨_,rfl⟩
            rw [hFb] at HS k1 k2 k3 k4 hFz |-
            clear hFb
            by_cases hE:E=0
            · have CU':Hid (∀ w',Calls Tryz.prog 62 #[.string X,.string f4] w' fun e w2=>e=.returned (.tuple #[.string T,.bool true])/\Below w'.heap.size w' w2):=fun w'=>(CU.out w').mono (by
               rintro e w2 ⟨x,rfl,h1,_,G⟩
               exact ⟨by rw [h1 hE,decide_eq_true hE],G⟩)
              have hT:=HZ.out hE
              have hT':(T.size:Int)<=512:=by omega
              have C6:Hid (∀ w',Calls Tryz.prog 64 #[.string T] w' fun e w2=>e=.returned (.int .i64 (Ar.sm T))/\w2=w'):=fun w'=>sumOf_any T w' (by omega)
              have HE':Hid (ok=decide ((T.size:Int)=f2/\Ar.sm T=f3)):=by show _=_;rw [HE.out];simp [hE]
              clear CU HE HZ hE
              generalize Ar.sm T=M at *
              go_wp2_with fail
              go_region_held3 (fun w'=>Below wF.heap.size wF w'/\w'.cell? ⟨w.heap.size,0,none⟩=some (.slice ad k cd)/\w'.cell? ⟨w.heap.size,1,none⟩=some (.slice (some ⟨b,off,none⟩) N cf)/\w'.cell? ⟨Fb,1,none⟩=some (.int .i64 f1)/\w'.cell? ⟨Fb,4,none⟩=some (.string f4))
               (first | (exact HS.out _ ((Below.refl _ _).drew)) | (exact HS.out _ (bch (And.left (by assumption)) G6 (Nat.le_refl _))) | (exact HS.out _ (bch (And.left (by assumption)) G5 (Nat.le_refl _))))
               (first
                | (go_at_call 63;refine (CD'.out _ ?_).mono ?_;exact And.left (by assumption);rintro e w5 ⟨rfl,G5⟩)
                | (go_at_call 62;refine (CU'.out _).mono ?_;rintro e w6 ⟨rfl,G6⟩))
              all_goals
               have B12:Below wF.heap.size wF w6:=bch (bch ((Below.refl _ _).drew) G5 (Nat.le_refl _)) G6 (Nat.le_refl _)
               have n2:=(B12.cell (p:=⟨Fb,2,none⟩) hFz).trans k2
               have n3:=(B12.cell (p:=⟨Fb,3,none⟩) hFz).trans k3
               have B13:=bch B10 B12 (Nat.le_refl _)
               have B14:=bch B11 B12 (Nat.le_refl _)
               have B15:Hid (∀ n,Below w.heap.size w (w6.drewN n)/\Below w1.heap.size w1 (w6.drewN n)):=fun n=>⟨below_drewN B13 n,below_drewN B14 n⟩
               clear G5 G6 HS CD' CU' k1 k2 k3 k4 B10 B11 B12 B13 B14
               by_cases h2:(T.size:Int)=f2
               · by_cases h3:M=f3
                 · have hok:Hid (Ar.okAt a m=true):=HO.out true (by rw [HE'.out];exact decide_eq_true ⟨h2,h3⟩)
                   have e3:(M == f3)=true:=by simpa using h3
                   have e4:(M != f3)=false:=by simpa using h3
                   have e5:((T.size:Int) == f2)=true:=by simpa using h2
                   have e6:((T.size:Int) != f2)=false:=by simpa using h2
                   subst h3 h2
                   clear HE' HO
                   go_wp2_with fail
                   go_quiet ((go_at_call 64;exact Calls.quiet_of_same (C6.out _)))
                   all_goals
                    go_wp2_with fail
                    go_roundw
                    case rel=>exact ⟨m+1,by omega,by go_num,HGn.out hok.out,(B15.out _).2⟩
                    case measure=>simp [intOf];omega
                 · have hok:Hid (c=1):=HC1.out (HO.out false (by rw [HE'.out];exact decide_eq_false (fun h=>h3 h.2)))
                   have e3:(M == f3)=false:=by simpa using h3
                   have e4:(M != f3)=true:=by simpa using h3
                   have e5:decide (M=f3)=false:=decide_eq_false h3
                   subst h2
                   clear HE' HO h3
                   go_wp2_with fail
                   go_quiet ((go_at_call 64;exact Calls.quiet_of_same (C6.out _)))
                   all_goals
                    go_wp2_with fail
                    go_ret
                    exact HQ.out hok.out _ (B15.out _).1
               · have hok:Hid (c=1):=HC1.out (HO.out false (by rw [HE'.out];exact decide_eq_false (fun h=>h2 h.1)))
                 have e3:((T.size:Int) == f2)=false:=by simpa using h2
                 have e4:((T.size:Int) != f2)=true:=by simpa using h2
                 have e5:decide ((T.size:Int)=f2)=false:=decide_eq_false h2
                 clear HE' HO h2 C6
                 go_wp2_with fail
                 go_quiet (fail)
                 all_goals
                  go_wp2_with fail
                  go_ret
                  exact HQ.out hok.out _ (B15.out _).1
            · have CU':Hid (∀ w',Calls Tryz.prog 62 #[.string X,.string f4] w' fun e w2=>∃ x,e=.returned (.tuple #[.string x,.bool false])/\Below w'.heap.size w' w2):=fun w'=>(CU.out w').mono (by
               rintro e w2 ⟨x,rfl,_,_,G⟩
               exact ⟨x,by rw [decide_eq_false hE],G⟩)
              have hok:Hid (c=1):=HC1.out (HO.out false (by rw [HE.out];exact decide_eq_false (fun h=>hE h.1)))
              clear CU HE HZ hE HO
              go_wp2_with fail
              go_region_held3 (fun w'=>Below wF.heap.size wF w'/\w'.cell? ⟨w.heap.size,0,none⟩=some (.slice ad k cd)/\w'.cell? ⟨w.heap.size,1,none⟩=some (.slice (some ⟨b,off,none⟩) N cf)/\w'.cell? ⟨Fb,1,none⟩=some (.int .i64 f1)/\w'.cell? ⟨Fb,4,none⟩=some (.string f4))
               (first | (exact HS.out _ ((Below.refl _ _).drew)) | (exact HS.out _ (bch (And.left (by assumption)) G6 (Nat.le_refl _))) | (exact HS.out _ (bch (And.left (by assumption)) G5 (Nat.le_refl _))))
               (first
                | (go_at_call 63;refine (CD'.out _ ?_).mono ?_;exact And.left (by assumption);rintro e w5 ⟨rfl,G5⟩)
                | (go_at_call 62;refine (CU'.out _).mono ?_;rintro e w6 ⟨x,rfl,G6⟩))
              all_goals
               have B13:=bch B10 (bch (bch ((Below.refl _ _).drew) G5 (Nat.le_refl _)) G6 (Nat.le_refl _)) (Nat.le_refl _)
               have B15:Hid (∀ n,Below w.heap.size w (w6.drewN n)):=fun n=>below_drewN B13 n
               clear G5 G6 HS CD' CU' k1 k2 k3 k4 B10 B11 B13
               go_wp2_with fail
               go_quiet (fail)
               all_goals
                go_wp2_with fail
                go_ret
                exact HQ.out hok.out _ (B15.out _)
        · have d3:decide ((0:Int)<(m:Int))=true:=by simp;omega
          have d3':decide (0<m)=true:=by simp;omega
          have hw1:IntKind.i64.wrap ((m:Int) - 1)=(m:Int) - 1:=IntWalk.i64_in _ ⟨by omega,by omega⟩
          obtain ⟨b',off',hbo,_,hprev⟩:=HF.out wr B3 (m - 1) (by omega)
          simp only [Option.some.injEq,Addr.mk.injEq,and_true] at hbo
          obtain ⟨rfl,rfl⟩:=hbo
          have p0:=hprev.c0
          have p0':wr.cell? ⟨b,off+((m:Int) - 1).toNat*5,none⟩=some (.string (Ar.fa a.files (m - 1)).name):=by rw [show ((m:Int) - 1).toNat=m - 1 by omega];exact p0
          clear hprev
          cases hbl1:Tr.bl (Ar.fa a.files (m - 1)).name (Ar.fa a.files m).name with
          | false =>
           have hord:(decide (m=0) || Tr.bl (Ar.fa a.files (m - 1)).name (Ar.fa a.files m).name)=false:=by rw [decide_eq_false hm0,hbl1];rfl
           have hg:Hid (c=1):=HC1.out (by rw [HP.out true false _ hnm hord rfl];rfl)
           clear hnm HP HC1 CW hord
           unfold Tr.bl at hbl1
           generalize (Ar.fa a.files (m - 1)).name=f9 at *
           generalize (Ar.fa a.files m).name=f0 at *
           generalize (Ar.fa a.files m).dict=f1 at *
           generalize (Ar.fa a.files m).size=f2 at *
           generalize (Ar.fa a.files m).sum=f3 at *
           generalize (Ar.fa a.files m).blk=f4 at *
           go_wp2_with fail
           go_quiet ((go_at_call 56;exact Calls.quiet_of_same (CN.out _)))
           all_goals
            go_wp2_with fail
            go_ret
            exact HQ.out hg.out _ (BF.out _ _)
          | true =>
           have hord:(decide (m=0) || Tr.bl (Ar.fa a.files (m - 1)).name (Ar.fa a.files m).name)=true:=by rw [decide_eq_false hm0,hbl1];rfl
           unfold Tr.bl at hbl1
           generalize (Ar.fa a.files (m - 1)).name=f9 at *
           cases hhas:Ar.has a.dicts (Ar.fa a.files m).dict with
           | false =>
            have hg:Hid (c=1):=HC1.out (by rw [HP.out true true false hnm hord (by unfold Ar.okf;rw [hhas];rfl)];rfl)
            rw [hhas] at CW
            clear hnm HP HC1 hhas hord
            generalize (Ar.fa a.files m).name=f0 at *
            generalize (Ar.fa a.files m).dict=f1 at *
            generalize (Ar.fa a.files m).size=f2 at *
            generalize (Ar.fa a.files m).sum=f3 at *
            generalize (Ar.fa a.files m).blk=f4 at *
            go_wp2_with fail
            go_quiet (first | (go_at_call 56;exact Calls.quiet_of_same (CN.out _)) | (go_at_call 57;exact Calls.quiet_of_same (CW.out _)))
            all_goals
             go_wp2_with fail
             go_ret
             exact HQ.out hg.out _ (BF.out _ _)
           | true =>
            have CD:Hid (∀ w',Below w.heap.size w w'->Calls Tryz.prog 63 #[.agg #[.slice ad k cd,.slice (some ⟨b,off,none⟩) N cf],.int .i64 (Ar.fa a.files m).dict] w' fun e w3=>e=.returned (.string (Ar.dct a.dicts (Ar.fa a.files m).dict))/\Below w'.heap.size w' w3):=HD.out _ hhas
            have CU:Hid (∀ w',Calls Tryz.prog 62 #[.string (Ar.dct a.dicts (Ar.fa a.files m).dict),.string (Ar.fa a.files m).blk] w' fun e w3=>UnpSaid (Ar.up a.dicts (Ar.fa a.files m)) w' e w3):=HUk.out m
            have HO:Hid (∀ z,Ar.okf a.dicts (Ar.fa a.files m)=z->Ar.okAt a m=z):=fun z h9=>by rw [HP.out true true z hnm hord h9];rfl
            have HE:Hid (Ar.okf a.dicts (Ar.fa a.files m)=decide ((Ar.up a.dicts (Ar.fa a.files m)).2=0/\((Ar.up a.dicts (Ar.fa a.files m)).1.size:Int)=(Ar.fa a.files m).size/\Ar.sm (Ar.up a.dicts (Ar.fa a.files m)).1=(Ar.fa a.files m).sum)):=by show _=_;unfold Ar.okf;rw [hhas,Bool.true_and]
            have HZ:Hid ((Ar.up a.dicts (Ar.fa a.files m)).2=0->(Ar.up a.dicts (Ar.fa a.files m)).1.size<=512):=fun h9=>Bk.unp_size h9
            rw [hhas] at CW
            have HGn:Hid (Ar.okAt a m=true->Ar.gdK a (m+1)=true):=fun h9=>by rw [Ar.gdK,HGm.out,h9];rfl
            clear hnm HP hhas hord
            unfold UnpSaid at CU
            obtain ⟨U,hU⟩:∃ U,Ar.up a.dicts (Ar.fa a.files m)=U:=⟨_,rfl⟩
            simp only [hU] at CU HE HZ
            obtain ⟨T,E⟩:=U
            simp only at CU HE HZ
            clear hU
            generalize Ar.okf a.dicts (Ar.fa a.files m)=ok at *
            generalize Ar.dct a.dicts (Ar.fa a.files m).dict=X at *
            generalize (Ar.fa a.files m).name=f0 at *
            generalize (Ar.fa a.files m).dict=f1 at *
            generalize (Ar.fa a.files m).size=f2 at *
            generalize (Ar.fa a.files m).sum=f3 at *
            generalize (Ar.fa a.files m).blk=f4 at *
            go_wp2_with fail
            go_quiet (first | (go_at_call 56;exact Calls.quiet_of_same (CN.out _)) | (go_at_call 57;exact Calls.quiet_of_same (CW.out _)))
            all_goals
             have hFs:wr.heap.size<(wr.alloc (.cells #[.string f0,.int .i64 f1,.int .i64 f2,.int .i64 f3,.string f4] 46 (0,0))).heap.size:=by simp
             have BA:Below wr.heap.size wr (wr.alloc (.cells #[.string f0,.int .i64 f1,.int .i64 f2,.int .i64 f3,.string f4] 46 (0,0))):=(Below.refl _ _).alloc (Nat.le_refl _) _
             have B9:=below_drewN (Below.refl (wr.alloc (.cells #[.string f0,.int .i64 f1,.int .i64 f2,.int .i64 f3,.string f4] 46 (0,0))).heap.size (wr.alloc (.cells #[.string f0,.int .i64 f1,.int .i64 f2,.int .i64 f3,.string f4] 46 (0,0)))) nq
             have hF:=fun i=>(B9.cell (p:=⟨wr.heap.size,i,none⟩) hFs).trans (World.cell?_alloc_new wr #[.string f0,.int .i64 f1,.int .i64 f2,.int .i64 f3,.string f4] 46 i)
             have hFz:wr.heap.size<((wr.alloc (.cells #[.string f0,.int .i64 f1,.int .i64 f2,.int .i64 f3,.string f4] 46 (0,0))).drewN nq).heap.size:=Nat.lt_of_lt_of_le hFs B9.size
             have BA9:=bch BA B9 (Nat.le_refl _)
             clear BA B9 hFs
             generalize (wr.alloc (.cells #[.string f0,.int .i64 f1,.int .i64 f2,.int .i64 f3,.string f4] 46 (0,0))).drewN nq=wF at *
             have q0:=(BA9.cell (p:=⟨w.heap.size,0,none⟩) hz2).trans a0'
             have q1:=(BA9.cell (p:=⟨w.heap.size,1,none⟩) hz2).trans a1'
             have hzF:w.heap.size<wF.heap.size:=Nat.lt_of_lt_of_le hz2 BA9.size
             have k1:wF.cell? ⟨wr.heap.size,1,none⟩=some (.int .i64 f1):=hF 1
             have k2:wF.cell? ⟨wr.heap.size,2,none⟩=some (.int .i64 f2):=hF 2
             have k3:wF.cell? ⟨wr.heap.size,3,none⟩=some (.int .i64 f3):=hF 3
             have k4:wF.cell? ⟨wr.heap.size,4,none⟩=some (.string f4):=hF 4
             have B10:=bch B3 BA9 (Nat.le_refl _)
             have B11:=bch B2 BA9 (Nat.le_refl _)
             have HS:Hid (∀ w',Below wF.heap.size wF w'->Below wF.heap.size wF w'/\w'.cell? ⟨w.heap.size,0,none⟩=some (.slice ad k cd)/\w'.cell? ⟨w.heap.size,1,none⟩=some (.slice (some ⟨b,off,none⟩) N cf)/\w'.cell? ⟨wr.heap.size,1,none⟩=some (.int .i64 f1)/\w'.cell? ⟨wr.heap.size,4,none⟩=some (.string f4)):=fun w' h9 =>
              ⟨h9,(h9.cell (p:=⟨w.heap.size,0,none⟩) hzF).trans q0,(h9.cell (p:=⟨w.heap.size,1,none⟩) hzF).trans q1,(h9.cell (p:=⟨wr.heap.size,1,none⟩) hFz).trans k1,(h9.cell (p:=⟨wr.heap.size,4,none⟩) hFz).trans k4⟩
             have CD':Hid (∀ w',Below wF.heap.size wF w'->Calls Tryz.prog 63 #[.agg #[.slice ad k cd,.slice (some ⟨b,off,none⟩) N cf],.int .i64 f1] w' fun e w3=>e=.returned (.string X)/\Below w'.heap.size w' w3):=fun w' h9=>CD.out w' (bch B10 h9 (Nat.le_refl _))
             clear hF a0 a1 a0' a1' q0 q1 c0 c1 c2 c3 c4 CD CN CW BF HF HD HUk
             obtain ⟨Fb,hFb⟩:∃ Fb,wr.heap.size=Fb:=⟨_,rfl⟩
             rw [hFb] at HS k1 k2 k3 k4 hFz |-
             clear hFb
             by_cases hE:E=0
             · have CU':Hid (∀ w',Calls Tryz.prog 62 #[.string X,.string f4] w' fun e w2=>e=.returned (.tuple #[.string T,.bool true])/\Below w'.heap.size w' w2):=fun w'=>(CU.out w').mono (by
                rintro e w2 ⟨x,rfl,h1,_,G⟩
                exact ⟨by rw [h1 hE,decide_eq_true hE],G⟩)
               have hT:=HZ.out hE
               have hT':(T.size:Int)<=512:=by omega
               have C6:Hid (∀ w',Calls Tryz.prog 64 #[.string T] w' fun e w2=>e=.returned (.int .i64 (Ar.sm T))/\w2=w'):=fun w'=>sumOf_any T w' (by omega)
               have HE':Hid (ok=decide ((T.size:Int)=f2/\Ar.sm T=f3)):=by show _=_;rw [HE.out];simp [hE]
               clear CU HE HZ hE
               generalize Ar.sm T=M at *
               go_wp2_with fail
               go_region_held3 (fun w'=>Below wF.heap.size wF w'/\w'.cell? ⟨w.heap.size,0,none⟩=some (.slice ad k cd)/\w'.cell? ⟨w.heap.size,1,none⟩=some (.slice (some ⟨b,off,none⟩) N cf)/\w'.cell? ⟨Fb,1,none⟩=some (.int .i64 f1)/\w'.cell? ⟨Fb,4,none⟩=some (.string f4))
                (first | (exact HS.out _ ((Below.refl _ _).drew)) | (exact HS.out _ (bch (And.left (by assumption)) G6 (Nat.le_refl _))) | (exact HS.out _ (bch (And.left (by assumption)) G5 (Nat.le_refl _))))
                (first
                 | (go_at_call 63;refine (CD'.out _ ?_).mono ?_;exact And.left (by assumption);rintro e w5 ⟨rfl,G5⟩)
                 | (go_at_call 62;refine (CU'.out _).mono ?_;rintro e w6 ⟨rfl,G6⟩))
               all_goals
                have B12:Below wF.heap.size wF w6:=bch (bch ((Below.refl _ _).drew) G5 (Nat.le_refl _)) G6 (Nat.le_refl _)
                have n2:=(B12.cell (p:=⟨Fb,2,none⟩) hFz).trans k2
                have n3:=(B12.cell (p:=⟨Fb,3,none⟩) hFz).trans k3
                have B13:=bch B10 B12 (Nat.le_refl _)
                have B14:=bch B11 B12 (Nat.le_refl _)
                have B15:Hid (∀ n,Below w.heap.size w (w6.drewN n)/\Below w1.heap.size w1 (w6.drewN n)):=fun n=>⟨below_drewN B13 n,below_drewN B14 n⟩
                clear G5 G6 HS CD' CU' k1 k2 k3 k4 B10 B11 B12 B13 B14
                by_cases h2:(T.size:Int)=f2
                · by_cases h3:M=f3
                  · have hok:Hid (Ar.okAt a m=true):=HO.out true (by rw [HE'.out];exact decide_eq_true ⟨h2,h3⟩)
                    have e3:(M == f3)=true:=by simpa using h3
                    have e4:(M != f3)=false:=by simpa using h3
                    have e5:((T.size:Int) == f2)=true:=by simpa using h2
                    have e6:((T.size:Int) != f2)=false:=by simpa using h2
                    subst h3 h2
                    clear HE' HO
                    go_wp2_with fail
                    go_quiet ((go_at_call 64;exact Calls.quiet_of_same (C6.out _)))
                    all_goals
                     go_wp2_with fail
                     go_roundw
                     case rel=>exact ⟨m+1,by omega,by go_num,HGn.out hok.out,(B15.out _).2⟩
                     case measure=>simp [intOf];omega
                  · have hok:Hid (c=1):=HC1.out (HO.out false (by rw [HE'.out];exact decide_eq_false (fun h=>h3 h.2)))
                    have e3:(M == f3)=false:=by simpa using h3
                    have e4:(M != f3)=true:=by simpa using h3
                    have e5:decide (M=f3)=false:=decide_eq_false h3
                    subst h2
                    clear HE' HO h3
                    go_wp2_with fail
                    go_quiet ((go_at_call 64;exact Calls.quiet_of_same (C6.out _)))
                    all_goals
                     go_wp2_with fail
                     go_ret
                     exact HQ.out hok.out _ (B15.out _).1
                · have hok:Hid (c=1):=HC1.out (HO.out false (by rw [HE'.out];exact decide_eq_false (fun h=>h2 h.1)))
                  have e3:((T.size:Int) == f2)=false:=by simpa using h2
                  have e4:((T.size:Int) != f2)=true:=by simpa using h2
                  have e5:decide ((T.size:Int)=f2)=false:=decide_eq_false h2
                  clear HE' HO h2 C6
                  go_wp2_with fail
                  go_quiet (fail)
                  all_goals
                   go_wp2_with fail
                   go_ret
                   exact HQ.out hok.out _ (B15.out _).1
             · have CU':Hid (∀ w',Calls Tryz.prog 62 #[.string X,.string f4] w' fun e w2=>∃ x,e=.returned (.tuple #[.string x,.bool false])/\Below w'.heap.size w' w2):=fun w'=>(CU.out w').mono (by
                rintro e w2 ⟨x,rfl,_,_,G⟩
                exact ⟨x,by rw [decide_eq_false hE],G⟩)
               have hok:Hid (c=1):=HC1.out (HO.out false (by rw [HE.out];exact decide_eq_false (fun h=>hE h.1)))
               clear CU HE HZ hE HO
               go_wp2_with fail
               go_region_held3 (fun w'=>Below wF.heap.size wF w'/\w'.cell? ⟨w.heap.size,0,none⟩=some (.slice ad k cd)/\w'.cell? ⟨w.heap.size,1,none⟩=some (.slice (some ⟨b,off,none⟩) N cf)/\w'.cell? ⟨Fb,1,none⟩=some (.int .i64 f1)/\w'.cell? ⟨Fb,4,none⟩=some (.string f4))
                (first | (exact HS.out _ ((Below.refl _ _).drew)) | (exact HS.out _ (bch (And.left (by assumption)) G6 (Nat.le_refl _))) | (exact HS.out _ (bch (And.left (by assumption)) G5 (Nat.le_refl _))))
                (first
                 | (go_at_call 63;refine (CD'.out _ ?_).mono ?_;exact And.left (by assumption);rintro e w5 ⟨rfl,G5⟩)
                 | (go_at_call 62;refine (CU'.out _).mono ?_;rintro e w6 ⟨x,rfl,G6⟩))
               all_goals
                have B13:=bch B10 (bch (bch ((Below.refl _ _).drew) G5 (Nat.le_refl _)) G6 (Nat.le_refl _)) (Nat.le_refl _)
                have B15:Hid (∀ n,Below w.heap.size w (w6.drewN n)):=fun n=>below_drewN B13 n
                clear G5 G6 HS CD' CU' k1 k2 k3 k4 B10 B11 B13
                go_wp2_with fail
                go_quiet (fail)
                all_goals
                 go_wp2_with fail
                 go_ret
                 exact HQ.out hok.out _ (B15.out _)
     · obtain rfl:m=N:=by omega
       have d2:decide ((m:Int)<(m:Int))=false:=by simp
       have HR:Hid (c=0):=HGk.out HGm.out
       go_wp2_with fail
       go_ret
       exact ⟨congrArg (fun x=>Ending.returned (Value.int .i64 x)) HR.out.symm,B3⟩
theorem checkArch_any (ad af:Option Addr) (cd cf:Nat) (a:Ar.A) (w:World) (h:ArV w ad af a) (hs:SaneA a) :
 Calls Tryz.prog 19 #[av ad cd af cf a] w fun e w'=>e=.returned (.int .i64 (Ar.chk a))/\Below w.heap.size w w':=by
 by_cases hm:4<a.dicts.length\/12<a.files.length
 · have e:Ar.chk a=2:=by
    have:Ar.many a=true:=by unfold Ar.many;rw [decide_eq_true hm];rfl
    unfold Ar.chk;rw [if_pos this]
   rw [e]
   exact checkArch_len ad af cd cf a w hs.nd hs.nf hm
 · exact checkArch_some ad af cd cf a w h hs (by omega) (by omega)
end Go.Proofs.YtbjbjbpgmojcbabGreat
namespace Go.Proofs.YtbjbjbpgmojcbabGreat
open Go.RowKit
theorem retrainOf_chk (ad af:Option Addr) (cd cf:Nat) (a:Ar.A) (size:Int) (w:World) (h:ArV w ad af a) (hs:SaneA a) (hc:Ar.chk a ≠ 0) :
 Calls Tryz.prog 28 #[av ad cd af cf a,.int .i64 size] w fun e w'=>ArSaid w Ar.az (Ar.chk a) e w':=by
 have C1:Hid (∀ w',Below w.heap.size w w'->Calls Tryz.prog 19 #[av ad cd af cf a] w' fun e w2=>e=.returned (.int .i64 (Ar.chk a))/\Below w'.heap.size w' w2):=fun w' h9=>checkArch_any ad af cd cf a w' (h.below h9) hs
 have hQ:Hid (∀ w',Below w.heap.size w w'->ArSaid w Ar.az (Ar.chk a) (.returned (.tuple #[.agg #[.slice none 0 0,.slice none 0 0],.int .i64 (Ar.chk a)])) w'):=fun w' h9=>said_nil h9
 generalize ArSaid w Ar.az (Ar.chk a)=Q at *
 generalize Ar.chk a=E at *
 have e1:(E != 0)=true:=by simpa using hc
 have e2:(E == 0)=false:=by simpa using hc
 clear hc
 unfold av at C1 |-
 generalize a.dicts.length=D at *
 generalize a.files.length=N at *
 clear h hs
 go_enter Tryz.func28,Tryz.ntmps28
 go_wp2_with fail
 refine (C1.out _ (Fr.start w _ _).b).mono ?_
 rintro e w1 ⟨rfl,G1⟩
 have F1:=(Fr.start w _ _).next G1
 clear G1
 obtain ⟨b,a0,a1,r0,r1,z0,z1,hz⟩:=id F1
 go_wp2_with fail
 rw [F1.zero]
 exact bodyPost_ret (v:=.tuple #[.agg #[.slice none 0 0,.slice none 0 0],.int .i64 E]) (by simp [results,Tryz.results28,go_sem,F1.r0,F1.r1]) rfl (hQ.out _ F1.b)
theorem retrainOf_size (ad af:Option Addr) (cd cf:Nat) (a:Ar.A) (size:Int) (w:World) (h:ArV w ad af a) (hs:SaneA a) (hc:Ar.chk a=0) (hz9:¬ (0<=size/\size<=256)) :
 Calls Tryz.prog 28 #[av ad cd af cf a,.int .i64 size] w fun e w'=>ArSaid w Ar.az 3 e w':=by
 have C1:Hid (∀ w',Below w.heap.size w w'->Calls Tryz.prog 19 #[av ad cd af cf a] w' fun e w2=>e=.returned (.int .i64 (Ar.chk a))/\Below w'.heap.size w' w2):=fun w' h9=>checkArch_any ad af cd cf a w' (h.below h9) hs
 have C2:Hid (∀ w',Calls Tryz.prog 57 #[.int .i64 size,.int .i64 0,.int .i64 256] w' fun e w2=>e=.returned (.bool (decide (0<=size/\size<=256)))/\w2=w'):=fun w'=>within_any size 0 256 w'
 have hQ:Hid (∀ w',Below w.heap.size w w'->ArSaid w Ar.az 3 (.returned (.tuple #[.agg #[.slice none 0 0,.slice none 0 0],.int .i64 3])) w'):=fun w' h9=>said_nil h9
 generalize ArSaid w Ar.az 3=Q at *
 rw [hc] at C1
 rw [decide_eq_false hz9] at C2
 clear hc hz9
 unfold av at C1 |-
 generalize a.dicts.length=D at *
 generalize a.files.length=N at *
 clear h hs
 go_enter Tryz.func28,Tryz.ntmps28
 go_wp2_with fail
 refine (C1.out _ (Fr.start w _ _).b).mono ?_
 rintro e w1 ⟨rfl,G1⟩
 have F1:=(Fr.start w _ _).next G1
 clear G1
 obtain ⟨b,a0,a1,r0,r1,z0,z1,hz⟩:=id F1
 go_wp2_with fail
 refine (C2.out _).mono ?_
 rintro e w2 ⟨rfl,rfl⟩
 go_wp2_with fail
 rw [F1.zero]
 exact bodyPost_ret (v:=.tuple #[.agg #[.slice none 0 0,.slice none 0 0],.int .i64 3]) (by simp [results,Tryz.results28,go_sem,F1.r0,F1.r1]) rfl (hQ.out _ F1.b)
theorem retrainOf_full (ad af:Option Addr) (cd cf:Nat) (a:Ar.A) (size:Int) (w:World) (h:ArV w ad af a) (hs:SaneA a) (hc:Ar.chk a=0) (hz9:0<=size/\size<=256) (h4:a.dicts.length=4) :
 Calls Tryz.prog 28 #[av ad cd af cf a,.int .i64 size] w fun e w'=>ArSaid w Ar.az 2 e w':=by
 have C1:Hid (∀ w',Below w.heap.size w w'->Calls Tryz.prog 19 #[av ad cd af cf a] w' fun e w2=>e=.returned (.int .i64 (Ar.chk a))/\Below w'.heap.size w' w2):=fun w' h9=>checkArch_any ad af cd cf a w' (h.below h9) hs
 have C2:Hid (∀ w',Calls Tryz.prog 57 #[.int .i64 size,.int .i64 0,.int .i64 256] w' fun e w2=>e=.returned (.bool (decide (0<=size/\size<=256)))/\w2=w'):=fun w'=>within_any size 0 256 w'
 have hQ:Hid (∀ w',Below w.heap.size w w'->ArSaid w Ar.az 2 (.returned (.tuple #[.agg #[.slice none 0 0,.slice none 0 0],.int .i64 2])) w'):=fun w' h9=>said_nil h9
 generalize ArSaid w Ar.az 2=Q at *
 rw [hc] at C1
 rw [decide_eq_true hz9] at C2
 have d4:decide ((4:Int)<=(a.dicts.length:Int))=true:=decide_eq_true (by omega)
 have d4':decide (4<=a.dicts.length)=true:=decide_eq_true (by omega)
 clear hc hz9 h4
 unfold av at C1 |-
 generalize a.dicts.length=D at *
 generalize a.files.length=N at *
 clear h hs
 go_enter Tryz.func28,Tryz.ntmps28
 go_wp2_with fail
 refine (C1.out _ (Fr.start w _ _).b).mono ?_
 rintro e w1 ⟨rfl,G1⟩
 have F1:=(Fr.start w _ _).next G1
 clear G1
 obtain ⟨b,a0,a1,r0,r1,z0,z1,hz⟩:=id F1
 go_wp2_with fail
 refine (C2.out _).mono ?_
 rintro e w2 ⟨rfl,rfl⟩
 go_wp2_with fail
 rw [F1.zero]
 exact bodyPost_ret (v:=.tuple #[.agg #[.slice none 0 0,.slice none 0 0],.int .i64 2]) (by simp [results,Tryz.results28,go_sem,F1.r0,F1.r1]) rfl (hQ.out _ F1.b)
end Go.Proofs.YtbjbjbpgmojcbabGreat
namespace Go.Proofs.YtbjbjbpgmojcbabGreat
open Go.RowKit
section
variable {P:Program} {w:World}
theorem run_append_zero (w:World) (t ty e:TypeId) (i:TypeInfo) (ht:P.underlying t=some (.slice e)) (hi:P.info? e=some i) (b0:Addr) (n c0:Nat) (hle:n<=c0) (p:Option Addr) (c:Nat) :
 (Builtin.append_ #[t,t] ty #[.slice (some b0) n c0,.slice p 0 c]).run P w=.ok (.slice (some b0) n c0) w:=by
 cases p <;> simp [Builtin.append_,run_underlying ht,sizeOf,typeInfo,hi,Builtin.lenOf,Builtin.firstCells,loadCells,loadCellsFrom,storeCells,hle]
theorem wpList_append_all {ops:Array Oper} {rest:List Oper} {o:Oper} {a:Act} {Q:Exit->Act->World->Prop} (hgd:o.guard=none) (s x:Operand) (t:TypeId)
 (ho:o.op=.call { callee:=.builtin .append,args:=#[s,x],argTypes:=#[t,t] })
 (base:Nat) (e:TypeId) (i:TypeInfo) (z:Value) (size bytes:Nat) (ht:P.underlying t=some (.slice e)) (hi:P.info? e=some i) (hz:i.zero=some z)
 (hsize:i.size=size) (hby:i.bytes=bytes) (hzs:z.cells.size=size) (hsz:0<size)
 (g0 n c0:Nat) (xs:List Value) (hs:a.eval s=.slice (some ⟨g0,0,none⟩) n c0) (hown:w.ownsRow base e size (.slice (some ⟨g0,0,none⟩) n c0) n xs)
 (ad:Option Addr) (m c:Nat) (news:List Value) (hx:a.eval x=.slice ad m c) (hl:news.length=m*size) (hnews:m=0\/∃ b,ad=some b/\∀ j u,news[j]?=some u->w.cell? (b.add j)=some u) (h1:∀ u ∈ news,u.oneCell'=true)
 (h63:n+m<=maxLen) (hbytes:(n+m)*bytes<=140737488355328) (hbase:base<=w.heap.size) (H:Nat) (hH:w.heap.size=H)
 (h:∀ g cap w',w'.ownsRow base e size (.slice (some ⟨g,0,none⟩) (n+m) cap) (n+m) (xs++news)->w.grownBy w' (some g0)->(g=g0\/g=H)->wpList P ops Q rest (a.put o.dst (.slice (some ⟨g,0,none⟩) (n+m) cap)) w'):wpList P ops Q (o :: rest) a w:=by
 by_cases hm:m=0
 · subst hm
   obtain rfl:news=[]:=List.length_eq_zero_iff.1 (by rw [hl];omega)
   have hle:n<=c0:=by
    rcases hown.2 with ⟨h9,_⟩ | ⟨g,cap,cur,h9,_,_,h8,_⟩
    · cases h9
    · simp only [Value.slice.injEq] at h9
      obtain ⟨_,_,rfl⟩:=h9
      exact h8
   refine wpList_plain hgd fun K hK=>?_
   have hr:=run_append_zero (P:=P) w t o.type e i ht hi ⟨g0,0,none⟩ n c0 hle ad c
   unfold Oper.wp execOp
   simp only [ho,resolve,invoke,builtin,Sem.run_bind,Sem.run_pure,Result.andThen_ok,List.map_toArray,List.map_cons,List.map_nil,hs,hx,hr]
   have h9:=h g0 c0 w (by rw [Nat.add_zero,List.append_nil];exact hown) ⟨rfl,rfl,rfl,Nat.le_refl _,fun _ _ _=>rfl⟩ (.inl rfl)
   rw [Nat.add_zero] at h9
   exact hK _ _ h9
 · rcases hnews with h9 | ⟨b,rfl,hnews⟩
   · exact absurd h9 hm
   · refine wpList_append_lies w hgd s x t ho base e i z size bytes ht hi hz hsize hby hzs hsz _ n xs hs hown b m c news hx hl hnews h1 (by omega) h63 hbytes hbase H hH (fun g cap w' h2 h3 h4 _=>h g cap w' h2 h3 ?_)
     rcases h4 with h4 | h4
     · simp only [Value.ownBlock,Option.some.injEq] at h4;exact .inl h4.symm
     · exact .inr h4
end
end Go.Proofs.YtbjbjbpgmojcbabGreat
namespace Go.Proofs.YtbjbjbpgmojcbabGreat
open Go.RowKit
theorem CpS.put2 {w0 wr w2:World} {C lo g cap n1 m n2:Nat} {v1 v2:Value} {xs1 ys xs2:List Value} {o:Obj} (h:CpS w0 wr C lo v1 v2 n1 n2 xs1 xs2) (hg:(wr.alloc o).grownBy w2 v2.ownBlock)
 (ho:w2.ownsRow lo 46 5 (.slice (some ⟨g,0,none⟩) m cap) m ys) (hl:v2.ownBlock=some g\/g=(wr.alloc o).heap.size) :
 (w2.cell? ⟨C,1,none⟩=some v2/\w2.frozen? ⟨C,1,none⟩=false)/\CpS w0 (w2.setCell ⟨C,1,none⟩ (.slice (some ⟨g,0,none⟩) m cap)) C lo v1 (.slice (some ⟨g,0,none⟩) m cap) n1 m xs1 ys:=by
 have hB:=h.hb
 have hlC:=h.hC
 have hsz:(wr.alloc o).heap.size=wr.heap.size+1:=by simp
 have ha:=h.below ((Below.refl _ _).alloc (Nat.le_refl _) o)
 have n0:some C ≠ v2.ownBlock:=h.a2.symm
 have k0:=cell_keep hg ha.c0 n0
 have k1:=cell_keep hg ha.c1 n0
 have q0:=frozen_keep hg (by omega) ha.f0 n0
 have q1:=frozen_keep hg (by omega) ha.f1 n0
 have hsg:=setCell_grown w2 ⟨C,1,none⟩ (.slice (some ⟨g,0,none⟩) m cap)
 have hz:(wr.alloc o).heap.size<=w2.heap.size:=hg.size
 have hgC:g ≠ C:=by
  rcases hl with hl | hl
  · rintro rfl;exact h.a2 hl
  · omega
 refine ⟨⟨k1,q1⟩,?_,World.cell?_setCell_same _ _ _ k1,by rw [World.frozen?_setCell];exact q0,by rw [World.frozen?_setCell];exact q1,?_,ho.kept hsg (.inr (by simp [Value.ownBlock];exact hgC)),?_,h.a1,by simp [Value.ownBlock];exact hgC,hlC,?_,?_⟩
 · exact (World.cell?_setCell_other w2 _ _ _ (by intro e;have:=congrArg Addr.off e;simp at this)).trans k0
 · refine (ha.o1.kept hg ?_).kept hsg (.inr h.a1)
   cases hv:v1.ownBlock with
   | none=>exact .inl rfl
   | some j=>exact .inr (fun e=>h.ne j hv e.symm)
 · intro j hj e
   simp [Value.ownBlock] at e
   subst e
   rcases hl with hl | hl
   · exact h.ne g hj hl
   · have:=(h.o1.lt g hj).2
     omega
 · have:=hsg.size
   omega
 · exact ((h.bel.alloc (by omega) o).grown hg (by omega) (fun j hj=>(h.o2.lt j hj).1)).setCell hlC _
theorem CpS.mid2 {w0 wr w2:World} {C lo n1 n2:Nat} {v1 v2:Value} {xs1 xs2:List Value} {o:Obj} (h:CpS w0 wr C lo v1 v2 n1 n2 xs1 xs2) (hg:(wr.alloc o).grownBy w2 v2.ownBlock):w2.cell? ⟨C,0,none⟩=some v1/\Below lo w0 w2:=by
 have hB:=h.hb
 have hlC:=h.hC
 have hsz:(wr.alloc o).heap.size=wr.heap.size+1:=by simp
 have ha:=h.below ((Below.refl _ _).alloc (Nat.le_refl _) o)
 exact ⟨cell_keep hg ha.c0 h.a2.symm,(h.bel.alloc (by omega) o).grown hg (by omega) (fun j hj=>(h.o2.lt j hj).1)⟩
theorem CpS.new1 {w0 wr:World} {lo g cap n:Nat} {xs:List Value} (hb:Below lo w0 wr) (hl:lo<=wr.heap.size) (h:wr.ownsRow lo 9 1 (.slice (some ⟨g,0,none⟩) n cap) n xs) :
 CpS w0 (wr.alloc (.cells #[.slice (some ⟨g,0,none⟩) n cap,.slice none 0 0] 25 (0,0))) wr.heap.size lo (.slice (some ⟨g,0,none⟩) n cap) (.slice none 0 0) n 0 xs []:=by
 have hg:=(h.lt g rfl).2
 exact ⟨World.cell?_alloc_new _ _ _ 0,World.cell?_alloc_new _ _ _ 1,World.frozen?_alloc_at _ _ _ _ rfl,World.frozen?_alloc_at _ _ _ _ rfl,h.alloc _,⟨rfl,.inl ⟨rfl,rfl⟩⟩,fun j _ e=>by simp [Value.ownBlock] at e,by simp [Value.ownBlock];omega,by simp [Value.ownBlock],hl,by simp,hb.alloc hl _⟩
theorem CpS.new2 {w0 wr:World} {lo g cap n:Nat} {xs:List Value} (hb:Below lo w0 wr) (hl:lo<=wr.heap.size) (h:wr.ownsRow lo 46 5 (.slice (some ⟨g,0,none⟩) n cap) n xs) :
 CpS w0 (wr.alloc (.cells #[.slice none 0 0,.slice (some ⟨g,0,none⟩) n cap] 25 (0,0))) wr.heap.size lo (.slice none 0 0) (.slice (some ⟨g,0,none⟩) n cap) 0 n [] xs:=by
 have hg:=(h.lt g rfl).2
 exact ⟨World.cell?_alloc_new _ _ _ 0,World.cell?_alloc_new _ _ _ 1,World.frozen?_alloc_at _ _ _ _ rfl,World.frozen?_alloc_at _ _ _ _ rfl,⟨rfl,.inl ⟨rfl,rfl⟩⟩,h.alloc _,fun j e _=>by simp [Value.ownBlock] at e,by simp [Value.ownBlock],by simp [Value.ownBlock];omega,hl,by simp,hb.alloc hl _⟩
theorem own_empty (w:World) (lo:Nat) (e:TypeId) (size:Nat) (hl:lo<=w.heap.size):(w.alloc (.cells #[] e (0,0))).ownsRow lo e size (.slice (some ⟨w.heap.size,0,none⟩) 0 0) 0 []:=by
 refine ⟨by simp,.inr ⟨w.heap.size,0,#[],rfl,hl,?_,Nat.le_refl _,Nat.zero_le _,by simp,by simp⟩⟩
 show (w.heap.push (.cells #[] e (0,0)))[w.heap.size]?=_
 simp
theorem addr_off (g o j:Nat):(⟨g,o,none⟩:Addr).add j=⟨g,o+j,none⟩:=by unfold Addr.add;split <;> simp_all
theorem TxSl.news {w:World} {ad:Option Addr} {l:List ByteArray} (h:TxSl w ad l):l.length=0\/∃ b,ad=some b/\∀ j u,(l.map Value.string)[j]?=some u->w.cell? (b.add j)=some u:=by
 rcases h with rfl | ⟨b,off,rfl,_,h⟩
 · exact .inl rfl
 · refine .inr ⟨_,rfl,fun j u hj=>?_⟩
   rw [addr_off]
   have hl:j<l.length:=by
    rcases Nat.lt_or_ge j l.length with h9 | h9
    · exact h9
    · rw [List.getElem?_eq_none (by rw [List.length_map];exact h9)] at hj;cases hj
   rw [h j hl,<-hj]
   simp [Tr.xa,hl]
end Go.Proofs.YtbjbjbpgmojcbabGreat
namespace Go.Proofs.YtbjbjbpgmojcbabGreat
open Go.RowKit Go.Maps
namespace Tr
def snK (t q:ByteArray):Nat->Nat
 | 0=>0
 | j+1=>snK t q j+(if pc t j=q then 1 else 0)
theorem snK_le (t q:ByteArray):∀ j,snK t q j<=j
 | 0=>Nat.le_refl _
 | j+1=>by have:=snK_le t q j;rw [snK];split <;> omega
theorem snK_zero {t q:ByteArray} (hq:q.size=4):∀ {j:Nat},j<=t.size - 3->(snK t q j=0 ↔ stK q t j=false)
 | 0,_=>by simp [snK,stK]
 | j+1,h=>by
  have ih:=snK_zero (t:=t) hq (j:=j) (by omega)
  rw [snK,stK,Bool.or_eq_false_iff,<-ih,decide_eq_false_iff_not,hq]
  constructor
  · intro h9
    refine ⟨by omega,?_⟩
    rintro ⟨_,e⟩
    rw [if_pos (show pc t j=q from e)] at h9;omega
  · rintro ⟨h1,h2⟩
    rw [if_neg (show ¬ pc t j=q from fun e=>h2 ⟨by omega,e⟩)];omega
theorem snK_own (t:ByteArray) (j:Nat):snK t (pc t j) (j+1)=snK t (pc t j) j+1:=by rw [snK,if_pos rfl]
theorem snK_other {t q:ByteArray} {j:Nat} (h:q ≠ pc t j):snK t q (j+1)=snK t q j:=by rw [snK,if_neg (fun e=>h e.symm)];rfl
theorem CM.below {w w':World} {b n:Nat} {f:ByteArray->Nat} (h:CM w b n f) (hb:Below w.heap.size w w'):CM w' b n f:=by
 obtain ⟨D,h1,h2⟩:=h
 refine ⟨D,?_,h2⟩
 have hlt:=h1.lt
 obtain ⟨es,cl,h3,h4⟩:=h1
 exact ⟨es,cl,by rw [hb.block b hlt];exact h3,h4⟩
theorem CM.kept' {w w':World} {b n:Nat} {f:ByteArray->Nat} {row:Option Nat} (h:CM w b n f) (hg:w.grownBy w' row) (hne:some b ≠ row):CM w' b n f:=by
 obtain ⟨D,h1,h2⟩:=h
 exact ⟨D,h1.kept hg hne,h2⟩
theorem CM.at_f {f:ByteArray->Nat} {D:DataW Unit} (h3:∀ q:ByteArray,q.size=4->D.atKey (kl q) (i64 0)=i64 (f q)) (p:ByteArray) (hp:p.size=4) (c:Int) (h9:D.atKey (kl p) (.lit (.int .i64 0))=.lit (.int .i64 c)):c=(f p:Int):=by
 have h8:=h9.symm.trans (h3 p hp)
 simpa [i64] using h8
theorem bs_yes {xs:List ByteArray} {d P B:ByteArray} {C:Nat} (h:C<ct xs P\/(ct xs P=C/\1<ct xs P/\bl P B=true)) (hs:st P d=false):bs xs d (B,C) P=(P,ct xs P):=by
 rw [bs,if_pos]
 rw [hs]
 rcases h with h | ⟨h1,h2,h3⟩
 · simp [h]
 · rw [h3];simp [h1];omega
theorem bs_no {xs:List ByteArray} {d P B:ByteArray} {C:Nat} (h:¬ (C<ct xs P\/(ct xs P=C/\1<ct xs P/\bl P B=true))\/st P d=true):bs xs d (B,C) P=(B,C):=by
 rw [bs,if_neg]
 intro h9
 simp only [Bool.and_eq_true,Bool.or_eq_true,decide_eq_true_iff,Bool.not_eq_true',beq_iff_eq] at h9
 rcases h with h | h
 · apply h
   rcases h9.1 with h8 | h8
   · exact .inl h8
   · exact .inr ⟨h8.1.1,h8.1.2,h8.2⟩
 · rw [h] at h9;cases h9.2
theorem best_four (xs:List ByteArray) (d:ByteArray):(best xs d).size=0\/(best xs d).size=4:=by
 rcases best_spec xs d with ⟨h,_⟩ | ⟨h,_⟩
 · left;rw [h];rfl
 · exact .inr h
def bsz:Value->Nat
 | .string b=>b.size
 | _=>0
theorem not_empty {b:ByteArray} (h:0<b.size):b.toList.isEmpty=false:=by
 rw [ByteArray.toList_eq,List.isEmpty_eq_false_iff]
 intro e
 have:=congrArg List.length e
 simp at this
 rw [this] at h
 exact absurd h (by decide)
theorem size_zero {b:ByteArray} (h:b.size=0):b=⟨#[]⟩:=by
 cases b with | mk d=>congr;exact Array.eq_empty_of_size_eq_zero h
end Tr
end Go.Proofs.YtbjbjbpgmojcbabGreat
