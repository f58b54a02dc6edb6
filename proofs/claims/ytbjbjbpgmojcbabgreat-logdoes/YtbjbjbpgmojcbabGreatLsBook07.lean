/- A part of the proof: what it leans on. -/
import Derived.Deep.RegionLaw
import Derived.Test.YtbjbjbpgmojcbabGreatLsBook06
set_option maxRecDepth 4000
set_option maxHeartbeats 4000000
namespace Go.Proofs.YtbjbjbpgmojcbabGreat
open Go.RowKit
def ZbA (dict s:ByteArray):Option (List Tk.T) :=
 match Tk.D s with
 | none=>none
 | some l=>if l.length<=512/\Zo dict l=0 then some l else none
theorem Zci {dict s S:ByteArray} {l:List Tk.T} (h1:Tk.D s=(Tk.D S).map (l++·)) (h2:Tk.D S=none):ZbA dict s=none:=by
 unfold ZbA;rw [h1,h2];rfl
theorem Zfa {dict s S:ByteArray} {l:List Tk.T} (h1:Tk.D s=(Tk.D S).map (l++·)) (h2:512<l.length):ZbA dict s=none:=by
 unfold ZbA;rw [h1]
 cases Tk.D S with
 | none=>rfl
 | some m =>
  simp only [Option.map_some];rw [if_neg];simp;omega
theorem Zfj {dict s S:ByteArray} {l:List Tk.T} (h1:Tk.D s=(Tk.D S).map (l++·)) (h2:S.size=0) (h3:l.length<=512):ZbA dict s=if Zo dict l=0 then some l else none:=by
 unfold ZbA;rw [h1,Tk.Zqx h2];simp [h3]
theorem Zrg {s S S2:ByteArray} {l:List Tk.T} {t:Tk.T} {k:Nat} (h1:Tk.D s=(Tk.D S).map (l++·)) (h2:Tk.one S=some (t,k)) (h3:S.extract k S.size=S2):Tk.D s=(Tk.D S2).map ((l++[t])++·):=by
 rw [h1,Tk.Zhq h2,h3]
 cases Tk.D S2 <;> simp
theorem Zsf {w:World} {B n size q o:Nat} {e:TypeId} {v:Value} {xs:List Value} (h:w.ownsRow B e size v n xs) (hne:v.ownBlock ≠ some q) (x:Value):(w.setCell ⟨q,o,none⟩ x).ownsRow B e size v n xs :=
 h.kept (row:=some q) ⟨rfl,rfl,rfl,by simp [World.setCell],fun k _ hk=>zhS _ _ _ _ (fun e=>hk (by rw [e]))⟩ (.inr hne)
theorem Zkl (w:World) (g:Nat) (hg:g=w.heap.size) (x y z:Value) (T:TypeId):∀ j u,[x,y,z][j]?=some u->(w.alloc (.cells #[x,y,z] T)).cell? ((⟨g,0,none⟩:Addr).add j)=some u:=by
 subst hg;exact ZgB w x y z T
theorem Zkb (w:World) (a:Addr) (x:Value):(w.setCell a x).heap.size=w.heap.size:=by simp [World.setCell]
def Lits (l:List Tk.T) (n:Nat):Prop:=∀ t ∈ l,t.lit.size<=n
theorem Zdz (dict s:ByteArray) (w:World) (hs:s.size<=140737488355328) :
 Calls Tryz.prog 101 #[.string dict,.string s] w fun e w'=>Below w.heap.size w w' ∧
  ((ZbA dict s=none/\e=.returned (.tuple #[.slice none 0 0,.bool false]))\/∃ l ad cap,ZbA dict s=some l/\e=.returned (.tuple #[.slice ad l.length cap,.bool true])/\SlAt w' ad l):=by
 obtain ⟨i0,hi,hz0,hz1,hz2⟩:=info_parts ZcG;generalize hRO:ZbA dict s=RO at *;have HRO:Hid (ZbA dict s=RO):=hRO;clear hRO;go_enter Tryz.func101,Tryz.ntmps101
 go_wp2_with fail
 go_loopw [1,6] (fun x v wr=>∃ (S:ByteArray) (l:List Tk.T),x=.string S/\wr.ownsRow w.heap.size 165 3 v l.length (tcs l)/\Hid (Tk.D s=(Tk.D S).map (l++·)) ∧
  l.length<=512/\S.size<=140737488355328/\Hid (Lits l 140737488355328)/\Below w.heap.size w wr)
  (fun x _ _=>ZuR x)
 case atStart =>
  refine ⟨s,[],rfl,World.ownsRow_nil _ _ _ _,?_,by simp,hs,fun t ht=>by simp at ht,bR _ _⟩;show _=_
  cases Tk.D s <;> rfl
 case round =>
  obtain ⟨S,l,rfl,hown,hD,hl,hS,hlits,G⟩:=hrel;have hgs:=G.size;by_cases h0:S.size=0
  ·have hE0:=Zaq h0;obtain ⟨ad,cap,rfl,hsl⟩:=ZbN hown
   have hsane:Sane l:=⟨by omega,hlits.out⟩
   have hc:=fun w hsl=>ZnJ dict ad cap l w hsl hsane
   generalize hP:Zau dict l=PO at *;clear hP;by_cases hck:Zo dict l=0
   ·have HX:Hid (RO=some l):=by
     show _=_;rw [<-HRO.out,Zfj hD.out h0 hl,if_pos hck]
    rw [hck] at hc;clear hown hD hck;go_wp2_with fail
    refine (hc _ hsl).mono ?_;rintro e w1 ⟨rfl,hb1⟩;clear hc;go_wp2_with fail
    go_ret2
    exact ⟨bch G hb1 (nl _),.inr ⟨l,ad,cap,HX.out,rfl,hsl.below hb1⟩⟩
   ·have HX:Hid (RO=none):=by
     show _=_;rw [<-HRO.out,Zfj hD.out h0 hl,if_neg hck]
    have hne:(Zo dict l != 0)=true:=by simpa using hck
    generalize Zo dict l=E at *;clear hown hD hck;go_wp2_with fail
    refine (hc _ hsl).mono ?_;rintro e w1 ⟨rfl,hb1⟩;clear hc;go_wp2_with fail
    go_ret2
    exact ⟨bch G hb1 (nl _),.inl ⟨HX.out,rfl⟩⟩
  ·have hE0:=ZX h0
   cases hf:Nm.Zl S.data.toList with
   | none =>
    have HX:Hid (RO=none):=by
     show _=_;rw [<-HRO.out];exact Zci hD.out (Tk.Zhi h0 (by simp [Tk.one,hf]))
    have hc:=fun w=>Zdd S w (by omega) hf
    clear hf hD;go_wp2_with fail
    refine (hc _).mono ?_;rintro e w1 ⟨rfl,hb1⟩;clear hc;go_wp2_with fail
    go_ret2
    exact ⟨bch G hb1 (nl _),.inl ⟨HX.out,rfl⟩⟩
   | some x =>
    obtain ⟨n,k⟩:=x;have hc:=fun w=>ZaS S w n k (by omega) hf
    have hnb:=Nm.Zai hf;have hn:(n:Int)<=2147483647:=by omega
    have hkS:k<=S.size:=by simpa using hnb.2.2.1
    obtain ⟨r,hr⟩:∃ r,S.extract k S.size=r:=⟨_,rfl⟩
    have hrs:r.size=S.size - k:=by rw [<-hr,Tk.Zn]
    have HRS:Hid (r.size=S.size - k):=hrs;have hrb:r.size<=140737488355328:=by omega
    rw [hr] at hc;by_cases ho:n % 2=1
    ·have ho1:((n:Int) % 2 == 0)=false:=by simp;omega
     have hq2:(n:Int) / 2<=2147483647:=by omega
     cases hg:Nm.Zl r.data.toList with
     | none =>
      have HX:Hid (RO=none):=by
       show _=_;rw [<-HRO.out];refine Zci hD.out (Tk.Zhi h0 ?_);unfold Tk.one;rw [hf];simp only;rw [if_pos ho,hr,hg]
      have hc2:=fun w=>Zdd r w (by omega) hg
      clear hf hD hg hr hrs hnb ho;go_wp2_with fail
      refine (hc _).mono ?_;rintro e w1 ⟨rfl,hb1⟩;clear hc;have G1:=bch G hb1 (nl _);have hgs1:=G1.size;go_wp2_with fail
      refine (hc2 _).mono ?_;rintro e w2 ⟨rfl,hb2⟩;clear hc2;obtain ⟨q0,q1,q2,q3,q4,q5⟩:=box6 hb2;go_wp2_with fail
      go_ret2
      exact ⟨((bch (G1.alloc hgs1 _) hb2 (nl _)).setCell (p:=⟨w1.heap.size,1,none⟩) hgs1 _),.inl ⟨HX.out,rfl⟩⟩
     | some y =>
      obtain ⟨f,j⟩:=y
      have hone:Tk.one S=some (⟨⟨#[]⟩,f,(n / 2:Nat)⟩,k+j):=by
       unfold Tk.one;rw [hf];simp only;rw [if_pos ho,hr,hg]
      obtain ⟨S2,hS2⟩:∃ S2,r.extract j r.size=S2:=⟨_,rfl⟩
      have hSS:S.extract (k+j) S.size=S2:=by
       rw [<-hS2,<-hr];apply Nm.ZG;rw [Tk.ZS,Tk.ZS,Tk.ZS,List.drop_drop]
      have HD2:Hid (Tk.D s=(Tk.D S2).map ((l++[⟨⟨#[]⟩,f,(n / 2:Nat)⟩])++·)):=Zrg hD.out hone hSS;have hnn:((n / 2:Nat):Int)=(n:Int) / 2:=by omega
      rw [hnn] at HD2;have hc2:=fun w=>ZaS r w f j (by omega) hg
      rw [hS2] at hc2
      have HS:Hid (S2.size<S.size):=by
       show _<_;have:=Tk.Zdg hone;rw [<-hSS,Tk.Zn];omega
      have hS2b:S2.size<=140737488355328:=by have:=HS.out;omega
      have HO:Hid (wr.ownsRow w.heap.size 165 3 u6 l.length (tcs l)):=hown;clear hf hD hg hr hrs hnb ho hone hS2 hSS hnn hown;go_wp2_with fail
      refine (hc _).mono ?_;rintro e w1 ⟨rfl,hb1⟩;clear hc;have G1:=bch G hb1 (nl _);have hgs1:=G1.size;have HO1:=Zh HO.out hb1;go_wp2_with fail
      refine (hc2 _).mono ?_;rintro e w2 ⟨rfl,hb2⟩;clear hc2;obtain ⟨q0,q1,q2,q3,q4,q5⟩:=box6 hb2;have hneq:u6.ownBlock ≠ some w1.heap.size:=fun e=>by have:=(HO1.lt _ e).2;omega
      have HO2:=Zsf (o:=1) (Zh (HO1.alloc _) hb2) hneq (.int .i64 f);have G2:=(bch (G1.alloc hgs1 _) hb2 (nl _)).setCell (p:=⟨w1.heap.size,1,none⟩) hgs1 (.int .i64 f);have hgs2:=G2.size;rw [Zkb] at hgs2;have hsz2:=Zkb w2 ⟨w1.heap.size,1,none⟩ (.int .i64 f);have Hsz2:Hid ((w2.setCell ⟨w1.heap.size,1,none⟩ (.int .i64 f)).heap.size=w2.heap.size):=hsz2;clear hsz2;by_cases h512:512<l.length+1
      ·have HX:Hid (RO=none):=by
        show _=_;rw [<-HRO.out];exact Zfa HD2.out (by simp;omega)
       have hd1:decide ((512:Int)<(l.length:Int)+1)=true:=by simp;omega
       go_wp2_with (at_builtin;go_must (refine zwL _ rfl _ _ 131 rfl w.heap.size 165 i0 (.agg #[.string ⟨#[]⟩,.int .i64 0,.int .i64 0]) 3 32 U131 hi hz0 hz1 hz2 rfl (by decide) _ l.length (tcs l) rfl (HO2.alloc _) ⟨w2.heap.size,0,none⟩ 1 1 [.string ⟨#[]⟩,.int .i64 f,.int .i64 ((n:Int) / 2)] rfl rfl (Zkl _ _ Hsz2.out.symm _ _ _ _) (one3 _ _ _ rfl rfl rfl) (by decide) (ZaK (by omega)) (by omega) (ZH _ (by rw [Hsz2.out];exact hgs2)) _ rfl ?_;intro g4 cp4 w4 hown4 hgrow4 _ _))
       go_ret2
       exact ⟨(G2.alloc G2.size _).grown hgrow4 (ZH _ G2.size) (fun k hk=>(HO2.lt k hk).1),.inl ⟨HX.out,rfl⟩⟩
      ·have hd1:decide ((512:Int)<(l.length:Int)+1)=false:=by simp;omega
       go_wp2_with (at_builtin;go_must (refine zwL _ rfl _ _ 131 rfl w.heap.size 165 i0 (.agg #[.string ⟨#[]⟩,.int .i64 0,.int .i64 0]) 3 32 U131 hi hz0 hz1 hz2 rfl (by decide) _ l.length (tcs l) rfl (HO2.alloc _) ⟨w2.heap.size,0,none⟩ 1 1 [.string ⟨#[]⟩,.int .i64 f,.int .i64 ((n:Int) / 2)] rfl rfl (Zkl _ _ Hsz2.out.symm _ _ _ _) (one3 _ _ _ rfl rfl rfl) (by decide) (ZaK (by omega)) (by omega) (ZH _ (by rw [Hsz2.out];exact hgs2)) _ rfl ?_;intro g4 cp4 w4 hown4 hgrow4 _ _))
       go_roundw
       case rel =>
        have htc:tcs (l++[⟨⟨#[]⟩,f,(n:Int) / 2⟩])=tcs l++[.string ⟨#[]⟩,.int .i64 f,.int .i64 ((n:Int) / 2)]:=Zao _ _;refine ⟨S2,l++[⟨⟨#[]⟩,f,(n:Int) / 2⟩],rfl,by rw [htc,List.length_append];exact hown4,HD2,by simp;omega,hS2b,?_,(G2.alloc G2.size _).grown hgrow4 (ZH _ G2.size) (fun k hk=>(HO2.lt k hk).1)⟩;intro t ht;rcases List.mem_append.1 ht with h | h
        ·exact hlits.out t h
        ·simp at h;subst h;exact Nat.zero_le _
       case measure=>exact HS.out
    ·have ho1:((n:Int) % 2 == 0)=true:=by simp;omega
     obtain ⟨m,hm⟩:∃ m,n / 2=m:=⟨_,rfl⟩
     have hq:(n:Int) / 2=(m:Int):=by omega
     by_cases hbig:r.size<m
     ·have HX:Hid (RO=none):=by
       show _=_;rw [<-HRO.out];refine Zci hD.out (Tk.Zhi h0 ?_);unfold Tk.one;rw [hf];simp only;rw [if_neg ho,if_pos (by omega)]
      have hd1:decide ((r.size:Int)<(m:Int))=true:=by simp;omega
      have hd2:decide (r.size<m)=true:=by simp;omega
      clear hf hD hr hrs hnb ho hm hbig;go_wp2_with fail
      refine (hc _).mono ?_;rintro e w1 ⟨rfl,hb1⟩;clear hc;have G1:=bch G hb1 (nl _);have hgs1:=G1.size;go_wp2_with fail
      go_ret2
      exact ⟨G1.alloc hgs1 _,.inl ⟨HX.out,rfl⟩⟩
     ·have hd1:decide ((r.size:Int)<(m:Int))=false:=by simp;omega
      have hd2:decide (r.size<m)=false:=by simp;omega
      have hi1:(0:Int)<=(m:Int):=by omega
      have hi2:(m:Int)<=(r.size:Int):=by omega
      have hone:Tk.one S=some (⟨S.extract k (k+n / 2),0,0⟩,k+n / 2):=by
       unfold Tk.one;rw [hf];simp only;rw [if_neg ho,if_neg (by omega)]
      rw [hm] at hone
      obtain ⟨S2,hS2⟩:∃ S2,r.extract m r.size=S2:=⟨_,rfl⟩
      obtain ⟨lit,hlit⟩:∃ lit,r.extract 0 m=lit:=⟨_,rfl⟩
      have hSS:S.extract (k+m) S.size=S2:=by
       rw [<-hS2,<-hr];apply Nm.ZG;rw [Tk.ZS,Tk.ZS,Tk.ZS,List.drop_drop]
      have hLL:S.extract k (k+m)=lit:=by
       rw [<-hlit,<-hr];apply Nm.ZG;rw [Tk.Zab,Tk.Zab,Tk.ZS];simp
      rw [hLL] at hone;have HD2:Hid (Tk.D s=(Tk.D S2).map ((l++[⟨lit,0,0⟩])++·)):=Zrg hD.out hone hSS
      have HS:Hid (S2.size<S.size):=by
       show _<_;have:=Tk.Zdg hone;rw [<-hSS,Tk.Zn];omega
      have hS2b:S2.size<=140737488355328:=by have:=HS.out;omega
      have Hlit:Hid (lit.size<=140737488355328):=by
       have:=Zmx hone;show _<=_;exact nt this hS
      have HO:Hid (wr.ownsRow w.heap.size 165 3 u6 l.length (tcs l)):=hown;clear hf hD hr hrs hnb ho hm hone hSS hLL hbig hown;go_wp2_with fail
      refine (hc _).mono ?_;rintro e w1 ⟨rfl,hb1⟩;clear hc;have G1:=bch G hb1 (nl _);have hgs1:=G1.size;have HO1:=Zh HO.out hb1;have G2:=G1.alloc hgs1 (.cells #[.string lit,.int .i64 0,.int .i64 0] 165);have HO2:=HO1.alloc (.cells #[.string lit,.int .i64 0,.int .i64 0] 165);by_cases h512:512<l.length+1
      ·have HX:Hid (RO=none):=by
        show _=_;rw [<-HRO.out];exact Zfa HD2.out (by simp;omega)
       have hd1:decide ((512:Int)<(l.length:Int)+1)=true:=by simp;omega
       go_wp2_with (at_builtin;go_must (refine zwL _ rfl _ _ 131 rfl w.heap.size 165 i0 (.agg #[.string ⟨#[]⟩,.int .i64 0,.int .i64 0]) 3 32 U131 hi hz0 hz1 hz2 rfl (by decide) _ l.length (tcs l) rfl (HO2.alloc _) ⟨w1.heap.size+1,0,none⟩ 1 1 [.string lit,.int .i64 0,.int .i64 0] rfl rfl (Zkl _ _ (by simp) _ _ _ _) (one3 _ _ _ rfl rfl rfl) (by decide) (ZaK (by omega)) (by omega) (ZH _ (ZH _ hgs1)) _ rfl ?_;intro g4 cp4 w4 hown4 hgrow4 _ _))
       go_ret2
       exact ⟨(G2.alloc G2.size _).grown hgrow4 (ZH _ G2.size) (fun k hk=>(HO2.lt k hk).1),.inl ⟨HX.out,rfl⟩⟩
      ·have hd1:decide ((512:Int)<(l.length:Int)+1)=false:=by simp;omega
       go_wp2_with (at_builtin;go_must (refine zwL _ rfl _ _ 131 rfl w.heap.size 165 i0 (.agg #[.string ⟨#[]⟩,.int .i64 0,.int .i64 0]) 3 32 U131 hi hz0 hz1 hz2 rfl (by decide) _ l.length (tcs l) rfl (HO2.alloc _) ⟨w1.heap.size+1,0,none⟩ 1 1 [.string lit,.int .i64 0,.int .i64 0] rfl rfl (Zkl _ _ (by simp) _ _ _ _) (one3 _ _ _ rfl rfl rfl) (by decide) (ZaK (by omega)) (by omega) (ZH _ (ZH _ hgs1)) _ rfl ?_;intro g4 cp4 w4 hown4 hgrow4 _ _))
       go_roundw
       case rel =>
        have htc:tcs (l++[⟨lit,0,0⟩])=tcs l++[.string lit,.int .i64 0,.int .i64 0]:=Zao _ _;refine ⟨S2,l++[⟨lit,0,0⟩],rfl,by rw [htc,List.length_append];exact hown4,HD2,by simp;omega,hS2b,?_,(G2.alloc G2.size _).grown hgrow4 (ZH _ G2.size) (fun k hk=>(HO2.lt k hk).1)⟩;intro t ht;rcases List.mem_append.1 ht with h | h
        ·exact hlits.out t h
        ·simp at h;subst h;exact Hlit.out
       case measure=>exact HS.out
theorem ZdW (l:List UInt8):(⟨l.toArray⟩:ByteArray).size=l.length:=by simp [ByteArray.size]
theorem Own8.form8 {w:World} {B:Nat} {v:Value} {l:List UInt8} (h:Own8 w B v l) (hl:l ≠ []):∃ g cap,v=.slice (some ⟨g,0,none⟩) l.length cap/\B<=g:=by
 rcases h with ⟨_,h⟩ | ⟨g,cap,h0,h1,_⟩
 ·exact absurd h hl
 ·exact ⟨g,cap,h0,h1⟩
def BufAt (w:World) (B gb:Nat) (l:List UInt8):Prop :=
 B<=gb/\gb<w.heap.size/\w.frozen? ⟨gb,0,none⟩=false ∧
 ((w.cell? ⟨gb,0,none⟩=some (.slice none 0 0)/\l=[])\/∃ g cp,w.cell? ⟨gb,0,none⟩=some (.slice (some ⟨g,0,none⟩) l.length cp)/\Own8 w B (.slice (some ⟨g,0,none⟩) l.length cp) l/\g ≠ gb)
theorem BufAt.below {w w':World} {B gb:Nat} {l:List UInt8} (h:BufAt w B gb l) (hb:Below w.heap.size w w'):BufAt w' B gb l:=by
 obtain ⟨a,b,c,d⟩:=h;refine ⟨a,nT b hb.size,(hb.frozen (by exact b)).trans c,?_⟩;rcases d with ⟨d,e⟩ | ⟨g,cp,d,e,f⟩
 ·exact .inl ⟨(hb.cell (by exact b)).trans d,e⟩
 ·exact .inr ⟨g,cp,(hb.cell (by exact b)).trans d,e.below hb,f⟩
theorem BufAt.put {w w':World} {B gb g cp:Nat} {v:Value} {l':List UInt8} (hB:B<=gb) (hg:gb<w.heap.size) (hf:w.frozen? ⟨gb,0,none⟩=false) (hc:(w.cell? ⟨gb,0,none⟩).isSome=true)
 (hne:v.ownBlock ≠ some gb) (hA:App w w' B v (.slice (some ⟨g,0,none⟩) l'.length cp) l') :
 BufAt (w'.setCell ⟨gb,0,none⟩ (.slice (some ⟨g,0,none⟩) l'.length cp)) B gb l'/\Below B w (w'.setCell ⟨gb,0,none⟩ (.slice (some ⟨g,0,none⟩) l'.length cp)):=by
 have hgb:some gb ≠ v.ownBlock:=fun e=>hne e.symm
 have hsz:=hA.below.size
 have hgne:g ≠ gb:=by
  rcases hA.at_ g rfl with h | h
  ·intro e;subst e;exact hne h
  ·omega
 have hblk:=hA.block gb hg hgb;refine ⟨⟨hB,by simpa [World.setCell] using nT hg hsz,?_,.inr ⟨g,cp,?_,?_,hgne⟩⟩,hA.below.setCell (p:=⟨gb,0,none⟩) hB _⟩
 ·rw [World.frozen?_setCell,World.frozen?_of_block (w:=w) (by exact hblk)];exact hf
 ·obtain ⟨u,hu⟩:=Option.isSome_iff_exists.1 hc;refine cS _ _ _ (u:=u) ?_;rw [World.cell?_of_block (w:=w) (by exact hblk)];exact hu
 ·refine hA.own.kept (by simp [World.setCell]) (fun k hk=>?_);have:g=k:=by simpa [Value.ownBlock] using hk
  subst this;exact zhS _ _ _ _ (by simpa using hgne)
theorem BufAt.app {w w':World} {B gb g cp:Nat} {v u:Value} {l':List UInt8} (hB:B<=gb) (hg:gb<w.heap.size) (hf:w.frozen? ⟨gb,0,none⟩=false) (hc:w.cell? ⟨gb,0,none⟩=some u)
 (hne:v.ownBlock ≠ some gb) (hA:App w w' B v (.slice (some ⟨g,0,none⟩) l'.length cp) l') :
 w'.cell? ⟨gb,0,none⟩=some u/\w'.frozen? ⟨gb,0,none⟩=false/\Hid (BufAt (w'.setCell ⟨gb,0,none⟩ (.slice (some ⟨g,0,none⟩) l'.length cp)) B gb l')/\Hid (Below B w (w'.setCell ⟨gb,0,none⟩ (.slice (some ⟨g,0,none⟩) l'.length cp))):=by
 have hgb:some gb ≠ v.ownBlock:=fun e=>hne e.symm
 have hblk:=hA.block gb hg hgb;have hP:=BufAt.put hB hg hf (by rw [hc];rfl) hne hA;exact ⟨(cB (w:=w) (by exact hblk)).trans hc,(fB (w:=w) (by exact hblk)).trans hf,hP.1,hP.2⟩
def BufQ (w:World) (B gb:Nat) (l:List UInt8) (q:Nat):Prop :=
 BufAt w B gb l/\q<w.heap.size/\q ≠ gb/\∀ g n cp,w.cell? ⟨gb,0,none⟩=some (.slice (some ⟨g,0,none⟩) n cp)->g ≠ q
theorem BufAt.box {w:World} {B gb:Nat} {l:List UInt8} (h:BufAt w B gb l) (o:Obj):BufQ (w.alloc o) B gb l w.heap.size:=by
 have hb:=(bR w.heap.size w).alloc (nl _) o;refine ⟨h.below hb,by simp,by have:=h.2.1;omega,fun g n cp hc=>?_⟩;rw [hb.cell (by exact h.2.1)] at hc;rcases h.2.2.2 with ⟨d,_⟩ | ⟨g',cp',d,e,_⟩
 ·rw [d] at hc;simp at hc
 ·rw [d] at hc;simp at hc;have:=(e.lt g' rfl).2;omega
theorem BufQ.below {w w':World} {B gb q:Nat} {l:List UInt8} (h:BufQ w B gb l q) (hb:Below w.heap.size w w'):BufQ w' B gb l q :=
 ⟨h.1.below hb,nT h.2.1 hb.size,h.2.2.1,fun g n cp hc=>h.2.2.2 g n cp (by rw [<-hb.cell (by exact h.1.2.1)];exact hc)⟩
theorem BufQ.app {w w':World} {B gb g cp q:Nat} {v:Value} {l l':List UInt8} (h:BufQ w B gb l q) (hc:w.cell? ⟨gb,0,none⟩=some v) (hne:v.ownBlock ≠ some gb)
 (hv:v=.slice none 0 0\/∃ g n cp,v=.slice (some ⟨g,0,none⟩) n cp) (hA:App w w' B v (.slice (some ⟨g,0,none⟩) l'.length cp) l') :
 w'.cell? ⟨gb,0,none⟩=some v/\w'.frozen? ⟨gb,0,none⟩=false/\Hid (BufQ (w'.setCell ⟨gb,0,none⟩ (.slice (some ⟨g,0,none⟩) l'.length cp)) B gb l' q)/\Hid (Below B w (w'.setCell ⟨gb,0,none⟩ (.slice (some ⟨g,0,none⟩) l'.length cp))) ∧
  Hid ((w'.setCell ⟨gb,0,none⟩ (.slice (some ⟨g,0,none⟩) l'.length cp)).heap[q]?=w.heap[q]?):=by
 obtain ⟨h1,h2,h3,h4⟩:=h
 have hq:some q ≠ v.ownBlock:=by
  rcases hv with rfl | ⟨g',n,cp',rfl⟩
  ·simp [Value.ownBlock]
  ·have:=h4 g' n cp' hc;simp [Value.ownBlock];omega
 obtain ⟨a1,a2,a3,a4⟩:=BufAt.app h1.1 h1.2.1 h1.2.2.1 hc hne hA;have hsz:=hA.below.size;have hblk:=hA.block q h2 hq
 have hgq:g ≠ q:=by
  rcases hA.at_ g rfl with h | h
  ·intro e;subst e;exact hq h.symm
  ·omega
 have hset:(w'.setCell ⟨gb,0,none⟩ (.slice (some ⟨g,0,none⟩) l'.length cp)).cell? ⟨gb,0,none⟩=some (.slice (some ⟨g,0,none⟩) l'.length cp):=cS _ _ _ a1;refine ⟨a1,a2,⟨a3.out,by simpa [World.setCell] using nT h2 hsz,h3,fun g' n' cp' hc'=>?_⟩,a4,?_⟩
 ·rw [hset] at hc';simp at hc';omega
 ·show (w'.setCell _ _).heap[q]?=_;rw [Below.heap_setCell _ _ _ _ (by simpa using h3)];exact hblk
theorem Zcq {ops:Array Oper} {rest:List Oper} {o:Oper} {a:Act} {Q:Exit->Act->World->Prop} (w:World) (hgd:o.guard=none) (sl x:Operand) (ho:o.op=.call { callee:=.builtin .append,args:=#[sl,x],argTypes:=#[93,9] })
 (B:Nat) (v:Value) (l:List UInt8) (hs:a.eval sl=v) (h:Own8 w B v l) (s:ByteArray) (hx:a.eval x=.string s)
 (hlen:l.length+s.size<=140737488355328) (hB:B<=w.heap.size) (hne:l++s.data.toList ≠ [])
 (hK:∀ g cp w',App w w' B v (.slice (some ⟨g,0,none⟩) (l++s.data.toList).length cp) (l++s.data.toList)->wpList Tryz.prog ops Q rest (a.put o.dst (.slice (some ⟨g,0,none⟩) (l++s.data.toList).length cp)) w'):wpList Tryz.prog ops Q (o :: rest) a w:=by
 refine Zco w hgd sl x ho B v l hs h s hx hlen hB (fun v' w' hA=>?_);obtain ⟨g,cp,rfl,_⟩:=hA.own.form8 hne;exact hK g cp w' hA
theorem ZpP (B gb:Nat) (l:List UInt8) (n:Int) (w:World) (q:Nat) (hbuf:BufQ w B gb l q) (hBw:B<=w.heap.size) (h0:0<=n) (h1:n<=2147483647) (hl:l.length<=1000000) :
 Calls Tryz.prog 159 #[.int .i64 n,.pointer (some ⟨gb,0,none⟩)] w fun e w'=>e=.returned (.tuple #[])/\Below B w w'/\BufQ w' B gb (l++Nm.nb n.toNat) q/\w'.heap[q]?=w.heap[q]?:=by
 have hl5:=Nm.Zt n.toNat (by omega)
 obtain ⟨s,hs⟩:∃ s:ByteArray,s=⟨(Nm.nb n.toNat).toArray⟩:=⟨_,rfl⟩
 have hsd:s.data.toList=Nm.nb n.toNat:=by rw [hs]
 have hs5:s.size<=5:=by rw [hs,ZdW];exact hl5
 have Hne:Hid (∀ l:List UInt8,l++s.data.toList ≠ []):=fun l e=>Nm.Zql n.toNat (by rw [<-hsd];exact (List.append_eq_nil_iff.1 e).2)
 have HL:Hid (s.data.toList=Nm.nb n.toNat):=hsd;have hc:=ZgA n w h0 h1;rw [<-hs] at hc;clear hs hsd;go_enter Tryz.func159,Tryz.ntmps159
 go_wp2_with fail
 refine hc.mono ?_;rintro e w1 ⟨rfl,G⟩;have hb1:=hbuf.below G;have hBw1:B<=w1.heap.size:=nt hBw G.size;have HG:Below B w w1:=G.mono hBw;have HQ:Hid (w1.heap[q]?=w.heap[q]?):=G.block q hbuf.2.1;have HB1:Hid (BufQ w1 B gb l q):=hb1;clear hbuf G hc;obtain ⟨⟨a,b,c,d⟩,_,_,_⟩:=hb1;have len8:∀ l:List UInt8,(l++s.data.toList).length=l.length+s.size:=fun l=>by simp
 have Hlen:Hid (∀ l:List UInt8,(l++s.data.toList).length=l.length+s.size):=len8;clear len8;rcases d with ⟨d,e⟩ | ⟨g,cp,d,e,f⟩
 ·subst e;go_wp2_with (at_builtin;go_must (refine Zcq _ rfl _ _ rfl B (.slice none 0 0) [] rfl (Own8.nil _ _) s rfl (by simp;omega) hBw1 (Hne.out _) ?_;intro g1 cp1 w3 hA;obtain ⟨k1,k2,k3,k4,k5⟩:=BufQ.app HB1.out d (by simp [Value.ownBlock]) (Or.inl rfl) hA))
  go_end0
  have h3:=k3.out;have h4:=k4.out;have h5:=k5.out;rw [Hlen.out,HL.out] at h3;rw [Hlen.out] at h4 h5;simp only [List.length_nil,Nat.zero_add,List.nil_append] at h3 h4 h5;exact ⟨rfl,HG.trans h4,h3,h5.trans HQ.out⟩
 ·go_wp2_with (at_builtin;go_must (refine Zcq _ rfl _ _ rfl B (.slice (some ⟨g,0,none⟩) l.length cp) l rfl e s rfl (by omega) hBw1 (Hne.out _) ?_;intro g1 cp1 w3 hA;obtain ⟨k1,k2,k3,k4,k5⟩:=BufQ.app HB1.out d (by simp [Value.ownBlock];exact f) (Or.inr ⟨_,_,_,rfl⟩) hA))
  go_end0
  have h3:=k3.out;have h4:=k4.out;have h5:=k5.out;rw [Hlen.out,HL.out] at h3;rw [Hlen.out] at h4 h5;exact ⟨rfl,HG.trans h4,h3,h5.trans HQ.out⟩
def Open (w:World) (B gb q:Nat) (l:List UInt8) (x y z:Value) (T:TypeId) (g cp:Nat):Prop :=
 w.cell? ⟨q,0,none⟩=some x/\w.cell? ⟨q,1,none⟩=some y/\w.cell? ⟨q,2,none⟩=some z/\w.frozen? ⟨gb,0,none⟩=false ∧
  w.cell? ⟨gb,0,none⟩=some (.slice (some ⟨g,0,none⟩) l.length cp)/\Hid (Own8 w B (.slice (some ⟨g,0,none⟩) l.length cp) l)/\g ≠ gb/\Hid (BufQ w B gb l q)/\Hid (w.heap[q]?=some (.cells #[x,y,z] T))
theorem BufQ.open {w:World} {B gb q:Nat} {l:List UInt8} {x y z:Value} {T:TypeId} (h:BufQ w B gb l q) (hl:l ≠ []) (hq:w.heap[q]?=some (.cells #[x,y,z] T)):∃ g cp,Open w B gb q l x y z T g cp:=by
 have H:Hid (BufQ w B gb l q):=h;have e:∀ j,w.cell? ⟨q,j,none⟩=#[x,y,z][j]?:=fun j=>cell_of_row w q j _ _ _ hq
 obtain ⟨⟨_,_,c,d⟩,_⟩:=h;rcases d with ⟨_,d⟩ | ⟨g,cp,d1,d2,d3⟩
 ·exact absurd d hl
 ·exact ⟨g,cp,by rw [e];rfl,by rw [e];rfl,by rw [e];rfl,c,d1,d2,d3,H,hq⟩
theorem ZeA (B gb q:Nat) (l:List UInt8) (n:Int) (w:World) (x y z:Value) (T:TypeId) (hbuf:BufQ w B gb l q) (hq:w.heap[q]?=some (.cells #[x,y,z] T)) (hBw:B<=w.heap.size) (h0:0<=n) (h1:n<=2147483647) (hl:l.length<=1000000) :
 Calls Tryz.prog 159 #[.int .i64 n,.pointer (some ⟨gb,0,none⟩)] w fun e w'=>e=.returned (.tuple #[])/\Below B w w'/\∃ L2 g cp,Hid (L2=l++Nm.nb n.toNat)/\L2.length<=l.length+5/\Open w' B gb q L2 x y z T g cp:=by
 refine (ZpP B gb l n w q hbuf hBw h0 h1 hl).mono ?_;rintro e w' ⟨rfl,hb,hbq,hh⟩;obtain ⟨g,cp,ho⟩:=BufQ.open hbq (by simp [Nm.Zql]) (hh.trans hq);exact ⟨rfl,hb,_,g,cp,rfl,by have:=Nm.Zt n.toNat (by omega);simp;omega,ho⟩
def tb (t:Tk.T):List UInt8:=if t.lit.size ≠ 0 then Nm.nb (2*t.lit.size)++t.lit.data.toList else Nm.nb (2*t.len+1).toNat++Nm.nb t.far.toNat
def tbs:List Tk.T->List UInt8
 | []=>[]
 | t :: l=>tb t++tbs l
theorem Zky (l:List Tk.T) (t:Tk.T):tbs (l++[t])=tbs l++tb t:=by
 induction l with
 | nil=>simp [tbs]
 | cons a l ih=>simp [tbs,ih]
theorem BufAt.alloc {w:World} {B gb:Nat} {l:List UInt8} (h:BufAt w B gb l) (o:Obj):BufAt (w.alloc o) B gb l:=h.below ((Below.refl _ _).alloc (Nat.le_refl _) o)
theorem ZnP (dict:ByteArray) (ad:Option Addr) (cap:Nat) (l:List Tk.T) (w:World) (hl:SlAt w ad l) (hs:Sane l) (e0:Int) (he:Zo dict l=e0) (hne:(e0 != 0)=true) :
 Calls Tryz.prog 128 #[.string dict,.slice ad l.length cap] w fun e w'=>e=.returned (.tuple #[.string ⟨#[]⟩,.int .i64 e0])/\Below w.heap.size w w':=by
 have hc:=fun w hl=>Zhl dict ad cap l w hl hs
 rw [he] at hc;clear he;go_enter Tryz.func128,Tryz.ntmps128
 go_wp2_with fail
 refine (hc _ hl).mono ?_;rintro e w1 ⟨rfl,G⟩;clear hc;go_wp2_with fail
 go_ret2
 exact ⟨rfl,G⟩
theorem ZpI (dict:ByteArray) (b off cap:Nat) (l:List Tk.T) (w:World) (hb:b<w.heap.size) (hl:TkAt w b off l) (hs:Sane l) (hd:dict.size<=256) (s1:List UInt8) (hr:Tk.run dict.size dict.data.toList false l=(0,s1)) :
 Calls Tryz.prog 128 #[.string dict,.slice (some ⟨b,off,none⟩) l.length cap] w fun e w'=>e=.returned (.tuple #[.string ⟨(tbs l).toArray⟩,.int .i64 0])/\Below w.heap.size w w':=by
 have hc:=Zdt dict b off cap l w hd hb hl hs;rw [hr] at hc;have hd':(dict.size:Int)<=256:=by omega
 have hn':(l.length:Int)<=140737488355328:=by have:=hs.1;omega
 have hmf:∀ (fn:Fn) (first cap:Array Value) (w:World),(Instr.makeFunc fn first cap).run Tryz.prog w=.ok (.func fn first cap) w:=fun _ _ _ _=>rfl
 go_enter Tryz.func128,Tryz.ntmps128
 go_wp2_with fail
 refine hc.mono ?_;rintro e w1 ⟨rfl,G⟩;clear hc;have Hr:Hid (Tk.run dict.size dict.data.toList false l=(0,s1)):=hr;clear hr;go_wp2_with fail
 go_loopw [20] (fun i wr=>∃ (k:Nat) (s:List UInt8) (p:Bool) (L:List UInt8),k<=l.length/\i=.int .i64 k/\BufAt wr w.heap.size w1.heap.size L/\Hid (L=tbs (l.take k))/\L.length+11*dict.size<=11*s.length ∧
  Hid (Tk.run dict.size s p (l.drop k)=(0,s1))/\dict.size<=s.length/\s.length<=dict.size+512/\Below w.heap.size w wr)
  (fun i _=>l.length - (intOf i).toNat)
 case atStart =>
  refine ⟨0,dict.data.toList,false,[],by omega,rfl,?_,rfl,by simp,Hr,by simp,by simp,G.alloc G.size _⟩;exact ⟨G.size,by simp,by rw [World.frozen?_alloc_mark];simp,.inl ⟨by rw [World.cell?_alloc_mark];rfl,rfl⟩⟩
 case round =>
  have hw1:=G.size;clear G;obtain ⟨k,s,p,L,hk,rfl,hbuf,hL,hLl,hrun,hs1,hs2,G⟩:=hrel;by_cases hlt:k<l.length
  ·have hdrop:l.drop k=l[k] :: l.drop (k+1):=List.drop_eq_getElem_cons hlt;obtain ⟨c0,c1,c2⟩:=hl k hlt;rw [<-G.cell (by exact hb)] at c0 c1 c2;rw [hdrop] at hrun
   have HT:Hid (tbs (l.take (k+1))=L++tb l[k]):=by
    show _=_;rw [hL.out,<-Zky]
    congr 1
    simp
   clear hdrop hl hs;generalize l[k]=t at *
   have he:Tk.err dict.size s p t=0:=by
    by_cases h:Tk.err dict.size s p t=0
    ·exact h
    ·have:=hrun.out;rw [Tk.Zaf h] at this;simp only [Prod.mk.injEq] at this;exact absurd this.1 h
   have HR:Hid (Tk.run dict.size (Tk.make s t) (decide (t.lit.size ≠ 0)) (l.drop (k+1))=(0,s1)):=by
    have:=hrun.out;rw [Tk.Zal he] at this;exact this
   have hmk:=Tk.Zcs he;have hgs:=G.size;have HB:Hid (BufAt wr w.heap.size w1.heap.size L):=hbuf;clear hbuf he hrun;by_cases h0:t.lit.size ≠ 0
   ·have hE0:=ZX h0
    have HMK:Hid ((Tk.make s t).length=s.length+t.lit.size):=by
     have:=hmk.2.2.2.1 h0;show _=_;rw [hmk.1,this.2];rfl
    have hl512:(t.lit.size:Int)<=512:=by have:=hmk.2.2.2.2;omega
    have Hb512:Hid ((s.length:Int) - dict.size+t.lit.size<=512):=by have:=hmk.2.2.2.2;show _<=_;omega
    clear hmk;have Hne:Hid (∀ l:List UInt8,l++t.lit.data.toList ≠ []):=fun l e=>h0 (by simpa using congrArg List.length (List.append_eq_nil_iff.1 e).2)
    have hsd:t.lit.size<=512:=by omega
    go_wp2_with (first | (go_at_call 159;go_must (refine (ZeA w.heap.size w1.heap.size wr.heap.size L _ _ _ _ _ _ (HB.out.box _) (heap_alloc_new _ _) (ZH _ hgs) (by omega) (by omega) (by omega)).mono ?_;rintro e w3 ⟨rfl,hb3,L2,g3,cp3,HL2,hl2,x1,x2,x3,x4,x5,x6,x7,x8,x9⟩;have hgs3:=hb3.size;have hsz3:=ZH (.cells #[.string t.lit,.int .i64 t.far,.int .i64 t.len] 165) hgs)) | (at_builtin;go_must (refine Zcq _ rfl _ _ rfl w.heap.size (.slice (some ⟨g3,0,none⟩) L2.length cp3) L2 rfl x6.out t.lit rfl (by omega) (by omega) (Hne.out _) ?_;intro g4 cp4 w4 hA;obtain ⟨k1,k2,k3,k4,k5⟩:=BufQ.app x8.out x5 (by simp [Value.ownBlock];exact x7) (Or.inr ⟨_,_,_,rfl⟩) hA)))
    go_roundw
    case rel =>
     have e1:(L2++t.lit.data.toList).length=L2.length+t.lit.size:=by simp
     have h3:=k3.out;have h4:=k4.out;have e2:=HMK.out;have e3:=Hb512.out;rw [e1] at h3 h4;refine ⟨k+1,Tk.make s t,_,L2++t.lit.data.toList,by omega,by go_num,h3.1,?_,by rw [e1];omega,HR,by omega,by omega,((G.alloc hgs _).trans hb3).trans h4⟩;show _=_;rw [HT.out,HL2.out,tb,if_pos h0,List.append_assoc]
     congr 2
    case measure=>simp [intOf];omega
   ·have h00:t.lit.size=0:=by omega
    have hE0:=Zaq h00;obtain ⟨f1,f2,f3,f4⟩:=hmk.2.2.1 h00
    have HMK:Hid ((Tk.make s t).length=s.length+t.len.toNat):=by
     show _=_;rw [hmk.1,h00];rfl
    have Hb512:Hid ((s.length:Int) - dict.size+t.len<=512):=by have:=hmk.2.2.2.2;show _<=_;omega
    have tok:True:=trivial;clear hmk;go_wp2_with (first | (go_at_call 159;have _t:=tok;clear tok;go_must (refine (ZeA w.heap.size w1.heap.size wr.heap.size L _ _ _ _ _ _ (HB.out.box _) (heap_alloc_new _ _) (ZH _ hgs) (by omega) (by omega) (by omega)).mono ?_;rintro e w3 ⟨rfl,hb3,L2,g3,cp3,HL2,hl2,x1,x2,x3,x4,x5,x6,x7,x8,x9⟩;have hgs3:=hb3.size;have hsz3:=ZH (.cells #[.string t.lit,.int .i64 t.far,.int .i64 t.len] 165) hgs)) | (go_at_call 159;go_must (refine (ZeA w.heap.size w1.heap.size wr.heap.size L2 _ _ _ _ _ _ x8.out x9.out (by omega) (by omega) (by omega) (by omega)).mono ?_;rintro e w4 ⟨rfl,hb4,L3,g4,cp4,HL3,hl3,y1,y2,y3,y4,y5,y6,y7,y8,y9⟩)))
    go_roundw
    case rel =>
     have e2:=HMK.out;have e3:=Hb512.out;refine ⟨k+1,Tk.make s t,_,L3,by omega,by go_num,y8.out.1,?_,by omega,HR,by omega,by omega,((G.alloc hgs _).trans hb3).trans hb4⟩;show _=_;rw [HL3.out,HL2.out,HT.out,tb,if_neg h0,List.append_assoc]
    case measure=>simp [intOf];omega
  ·have hd1:decide ((k:Int)<(l.length:Int))=false:=by simp;omega
   have hd2:decide (k<l.length)=false:=by simp;omega
   have HE:Hid (tbs l=L):=by
    show _=_;rw [hL.out,List.take_of_length_le (by omega)]
   obtain ⟨_,_,_,d⟩:=hbuf;rcases d with ⟨d,e⟩ | ⟨g,cp,d,e,f⟩
   ·have hcv:=Lib.run_convert_nil_bytes wr 93 9 5 0 U93 U5 U9;subst e;clear hl hs;go_wp2_with fail
    go_ret2
    exact ⟨by rw [HE.out];rfl,G⟩
   ·obtain ⟨_,_,hq,_,_,_,_,q5⟩:=e.form (by simp);simp only [Value.slice.injEq,Option.some.injEq,Addr.mk.injEq,and_true,true_and] at hq;obtain ⟨rfl,rfl⟩:=hq;have hcv:=Own8.conv q5 0 cp;simp only [Nat.sub_zero,List.drop_zero] at hcv;clear hl hs q5 e;go_wp2_with fail
    go_ret2
    exact ⟨by rw [HE.out];rfl,G⟩
attribute [local go_sem ↓] Go.wp_at_zero Go.wp_at_succ
theorem ZnR (dict:ByteArray) (ad:Option Addr) (cap:Nat) (w:World) (hd:dict.size<=256) :
 Calls Tryz.prog 128 #[.string dict,.slice ad 0 cap] w fun e w'=>e=.returned (.tuple #[.string ⟨#[]⟩,.int .i64 0])/\Below w.heap.size w w':=by
 have hc:=Zeo dict ad cap w hd;have hmf:∀ (fn:Fn) (first cap:Array Value) (w:World),(Instr.makeFunc fn first cap).run Tryz.prog w=.ok (.func fn first cap) w:=fun _ _ _ _=>rfl
 have hcv:=fun w=>Lib.run_convert_nil_bytes (P:=Tryz.prog) w 93 9 5 0 U93 U5 U9
 go_enter Tryz.func128,Tryz.ntmps128
 go_wp2_with fail
 refine hc.mono ?_;rintro e w1 ⟨rfl,G⟩;clear hc;go_wp2_with fail
 refine wp_loop_rounds 1 ?_;rw [rounds_succ];go_wp2_with fail
 go_ret2
 exact ⟨rfl,G.alloc G.size _⟩
def ZfT (dict:ByteArray) (l:List Tk.T):ByteArray:=if Zo dict l ≠ 0 then ⟨#[]⟩ else ⟨(tbs l).toArray⟩
theorem ZfR {dict:ByteArray} {l:List Tk.T} (h0:Zo dict l=0):dict.size<=256/\(Tk.run dict.size dict.data.toList false l).1=0:=by
 unfold Zo at h0;by_cases h:256<dict.size
 ·rw [if_pos h] at h0;omega
 ·rw [if_neg h] at h0;exact ⟨by omega,h0⟩
theorem Zmo (dict:ByteArray) (ad:Option Addr) (cap:Nat) (l:List Tk.T) (w:World) (hl:SlAt w ad l) (hs:Sane l) :
 Calls Tryz.prog 128 #[.string dict,.slice ad l.length cap] w fun e w'=>e=.returned (.tuple #[.string (ZfT dict l),.int .i64 (Zo dict l)])/\Below w.heap.size w w':=by
 unfold ZfT;by_cases h0:Zo dict l=0
 ·rw [if_neg (by simpa using h0),h0];obtain ⟨hd,h1⟩:=ZfR h0;rcases hl with rfl | ⟨b,off,rfl,hb,ht⟩
  ·exact ZnR dict ad cap w hd
  ·exact ZpI dict b off cap l w hb ht hs hd _ (by rw [<-h1])
 ·rw [if_pos h0];exact ZnP dict ad cap l w hl hs _ rfl (by simpa using h0)
def Small (l:List Tk.T):Prop:=l.length<=1000/\∀ t ∈ l,t.lit.size<=1000/\0<=t.len/\t.len<=1000/\0<=t.far/\t.far<=1000
theorem Zeu (t:Tk.T) (h:t.lit.size<=1000/\0<=t.len/\t.len<=1000/\0<=t.far/\t.far<=1000):(tb t).length<=1010:=by
 unfold tb;split
 ·have:=Nm.Zt (2*t.lit.size) (by omega);simp;omega
 ·have h1:=Nm.Zt (2*t.len+1).toNat (by omega);have h2:=Nm.Zt t.far.toNat (by omega);simp;omega
theorem Zga (b off cap:Nat) (l:List Tk.T) (w:World) (hb:b<w.heap.size) (hl:TkAt w b off l) (hs:Small l) :
 Calls Tryz.prog 133 #[.slice (some ⟨b,off,none⟩) l.length cap] w fun e w'=>e=.returned (.string ⟨(tbs l).toArray⟩)/\Below w.heap.size w w':=by
 have hn':(l.length:Int)<=1000:=by have:=hs.1;omega
 go_enter Tryz.func133,Tryz.ntmps133
 go_wp2_with fail
 go_loopw [3,4] (fun x i wr=>∃ (k:Nat) (X:ByteArray),k<=l.length/\i=.int .i64 k/\x=.string X/\Hid (X.data.toList=tbs (l.take k))/\X.size<=1010*k/\Below w.heap.size w wr)
  (fun _ i _=>l.length - (intOf i).toNat)
 case atStart=>exact ⟨0,⟨#[]⟩,by omega,rfl,rfl,rfl,by decide,bR _ _⟩
 case round =>
  obtain ⟨k,X,hk,rfl,rfl,hX,hXl,G⟩:=hrel;by_cases hlt:k<l.length
  ·obtain ⟨c0,c1,c2⟩:=hl k hlt;rw [<-G.cell (by exact hb)] at c0 c1 c2
   have HT:Hid (tbs (l.take (k+1))=X.data.toList++tb l[k]):=by
    show _=_;rw [hX.out,<-Zky]
    congr 1
    simp
   have hsm:=hs.2 l[k] (gM hlt);have htl:=Zeu l[k] hsm;clear hl hs;generalize l[k]=t at *;have hi1:(0:Int)<=(k:Int):=by omega
   have hi2:(k:Int)<(l.length:Int):=by omega
   obtain ⟨m1,m2,m3,m4,m5⟩:=hsm;have hXb:(X.size:Int)<=2000000:=by omega
   by_cases h0:t.lit.size ≠ 0
   ·have hE0:=ZX h0;have hls:(t.lit.size:Int)<=1000:=by omega
    have hr1:IntKind.i64.wrap (2*(t.lit.size:Int))=2*(t.lit.size:Int):=IntWalk.i64_in _ ⟨by omega,by omega⟩;have hl5:=Nm.Zt (2*(t.lit.size:Int)).toNat (by omega);have hno1:¬ 9223372036854775807<X.size+(Nm.nb (2*(t.lit.size:Int)).toNat).length:=by omega
    have hno2:¬ 9223372036854775807<X.size+(Nm.nb (2*(t.lit.size:Int)).toNat).length+t.lit.size:=by omega
    go_wp2_with fail
    go_region_held3 (fun w'=>w'.cell? ⟨b,off+k*3,none⟩=some (.string t.lit)) (first | go_keep | (rw [hB.cell (by exact Nat.lt_of_lt_of_le hb G.size)];assumption)) (first | (go_at_call 83;refine (ZF (2*t.lit.size) (2*(t.lit.size:Int)) _ (by omega) (by omega) (by omega)).mono ?_;rintro e w1 ⟨rfl,hB⟩))
    go_wp2_with fail
    go_roundw
    case rel =>
     have e1:(X++⟨(Nm.nb (2*(t.lit.size:Int)).toNat).toArray⟩++t.lit).data.toList=tbs (l.take (k+1)):=by
      rw [Nm.appd,Nm.appd,HT.out,tb,if_pos h0,List.append_assoc]
      congr 2
     have e2:(X++⟨(Nm.nb (2*(t.lit.size:Int)).toNat).toArray⟩++t.lit).size<=1010*(k+1):=by
      rw [Nm.apps,Nm.apps,ZdW (Nm.nb _)];omega
     exact ⟨k+1,_,by omega,by go_num,rfl,e1,e2,bch G.drew hB (nl _)⟩
    case measure=>simp [intOf];omega
   ·have hE0:=Zaq (s:=t.lit) (by omega);have hr1:IntKind.i64.wrap (2*t.len)=2*t.len:=IntWalk.i64_in _ ⟨by omega,by omega⟩;have hr2:IntKind.i64.wrap (2*t.len+1)=2*t.len+1:=IntWalk.i64_in _ ⟨by omega,by omega⟩;have hl5:=Nm.Zt (2*t.len+1).toNat (by omega);have hl6:=Nm.Zt t.far.toNat (by omega);have hno1:¬ 9223372036854775807<X.size+(Nm.nb (2*t.len+1).toNat).length:=by omega
    have hno2:¬ 9223372036854775807<X.size+(Nm.nb (2*t.len+1).toNat).length+(Nm.nb t.far.toNat).length:=by omega
    go_wp2_with fail
    have hbw:b<wr.heap.size:=nT hb G.size;have tok:True:=trivial;go_region_held3 (fun w'=>w'.cell? ⟨b,off+k*3+1,none⟩=some (.int .i64 t.far)/\w'.cell? ⟨b,off+k*3+2,none⟩=some (.int .i64 t.len)) (first | (go_keep;done) | exact ⟨(hB2.cell (by exact nT hbw hB1.size)).trans ((hB1.cell (by exact hbw)).trans c1),(hB2.cell (by exact nT hbw hB1.size)).trans ((hB1.cell (by exact hbw)).trans c2)⟩ | exact ⟨(hB1.cell (by exact hbw)).trans c1,(hB1.cell (by exact hbw)).trans c2⟩) (first | (go_at_call 83;have _t:=tok;clear tok;refine (ZF (2*t.len+1).toNat (2*t.len+1) _ (by omega) (by omega) (by omega)).mono ?_;rintro e w1 ⟨rfl,hB1⟩) | (go_at_call 83;refine (ZF t.far.toNat t.far _ (by omega) (by omega) (by omega)).mono ?_;rintro e w2 ⟨rfl,hB2⟩))
    go_wp2_with fail
    go_roundw
    case rel =>
     have e1:(X++⟨(Nm.nb (2*t.len+1).toNat).toArray⟩++⟨(Nm.nb t.far.toNat).toArray⟩).data.toList=tbs (l.take (k+1)):=by
      rw [Nm.appd,Nm.appd,HT.out,tb,if_neg h0,List.append_assoc]
     have e2:(X++⟨(Nm.nb (2*t.len+1).toNat).toArray⟩++⟨(Nm.nb t.far.toNat).toArray⟩).size<=1010*(k+1):=by
      rw [Nm.apps,Nm.apps,ZdW (Nm.nb _),ZdW (Nm.nb _)];omega
     exact ⟨k+1,_,by omega,by go_num,rfl,e1,e2,bch (bch G.drew hB1 (nl _)) hB2 (nl _)⟩
    case measure=>simp [intOf];omega
  ·have hd1:decide ((k:Int)<(l.length:Int))=false:=by simp;omega
   have hd2:decide (k<l.length)=false:=by simp;omega
   have HE:Hid (X=⟨(tbs l).toArray⟩):=by
    show _=_;apply Nm.ZG;rw [hX.out,List.take_of_length_le (by omega)]
   clear hl hs;go_wp2_with fail
   go_ret
   exact ⟨by rw [<-HE.out];rfl,G⟩
theorem ZhL (ad:Option Addr) (cap:Nat) (w:World) :
 Calls Tryz.prog 133 #[.slice ad 0 cap] w fun e w'=>e=.returned (.string ⟨#[]⟩)/\Below w.heap.size w w':=by
 go_enter Tryz.func133,Tryz.ntmps133
 go_wp2_with fail
 refine wp_loop_rounds 1 ?_;rw [rounds_succ];go_wp2_with fail
 go_ret
 exact ⟨rfl,bR _ _⟩
theorem ZgT (ad:Option Addr) (cap:Nat) (l:List Tk.T) (w:World) (hl:SlAt w ad l) (hs:Small l) :
 Calls Tryz.prog 133 #[.slice ad l.length cap] w fun e w'=>e=.returned (.string ⟨(tbs l).toArray⟩)/\Below w.heap.size w w':=by
 rcases hl with rfl | ⟨b,off,rfl,hb,ht⟩
 ·exact ZhL ad cap w
 ·exact Zga b off cap l w hb ht hs
def Okt (t:Tk.T):Prop:=(t.lit.size ≠ 0/\t.far=0/\t.len=0/\t.lit.size<=512)\/(t.lit.size=0/\1<=t.far/\t.far<=768/\3<=t.len/\t.len<=64)
theorem ZtK {d:Nat} {s:List UInt8} {p:Bool} {t:Tk.T} {l:List Tk.T} (h:(Tk.run d s p (t :: l)).1=0):Tk.err d s p t=0/\(Tk.run d (Tk.make s t) (decide (t.lit.size ≠ 0)) l).1=0:=by
 by_cases e:Tk.err d s p t=0
 ·rw [Tk.Zal e] at h;exact ⟨e,h⟩
 ·rw [Tk.Zaf e] at h;exact absurd h e
theorem ZuS {t:Tk.T} (h:Okt t):(tb t).length<=2*(t.lit.size+t.len.toNat):=by
 unfold tb;rcases h with ⟨h0,h1,h2,h3⟩ | ⟨h0,h1,h2,h3,h4⟩
 ·rw [if_pos h0,List.length_append];have hl:t.lit.data.toList.length=t.lit.size:=by simp
  rw [hl];by_cases h5:2*t.lit.size<128
  ·rw [Nm.ZdS h5];simp only [List.length_cons,List.length_nil];omega
  ·have:=Nm.ZcI 1 (2*t.lit.size) (by omega);omega
 ·rw [if_neg (by omega),List.length_append];have a1:=Nm.ZcI 1 (2*t.len+1).toNat (by omega);have a2:=Nm.ZcI 1 t.far.toNat (by omega);omega
theorem ZsQ {d:Nat} (hd:d<=256):∀ (l:List Tk.T) (s:List UInt8) (p:Bool),d<=s.length->s.length<=d+512->(Tk.run d s p l).1=0 →
 (∀ t ∈ l,Okt t)/\(tbs l).length+2*s.length<=2*(d+512)/\l.length+s.length<=d+512:=by
 intro l
 induction l with
 | nil=>intro s p h1 h2 _;refine ⟨fun t h=>by simp at h,?_,?_⟩ <;> simp [tbs] <;> omega
 | cons t l ih =>
  intro s p h1 h2 h;obtain ⟨he,h⟩:=ZtK h;obtain ⟨m1,m2,m3,m4,m5⟩:=Tk.Zcs he
  have ok:Okt t:=by
   by_cases h0:t.lit.size=0
   ·have:=m3 h0;exact .inr ⟨h0,by omega,by omega,by omega,by omega⟩
   ·have:=m4 h0;exact .inl ⟨h0,this.1,this.2,by omega⟩
  have ht:=ZuS ok;obtain ⟨i1,i2,i3⟩:=ih (Tk.make s t) _ (by omega) (by omega) h;have hpos:1<=t.lit.size+t.len.toNat:=by rcases ok with h | h <;> omega
  refine ⟨?_,?_,?_⟩
  ·intro u hu;rcases List.mem_cons.1 hu with rfl | hu
   ·exact ok
   ·exact i1 u hu
  ·simp only [tbs,List.length_append];omega
  ·simp only [List.length_cons];omega
theorem ZbM {dict:ByteArray} {l:List Tk.T} (h:Zo dict l=0):(∀ t ∈ l,Okt t)/\(tbs l).length<=1024/\l.length<=512:=by
 obtain ⟨hd,h1⟩:=ZfR h;have hl:dict.data.toList.length=dict.size:=by simp
 have:=ZsQ hd l dict.data.toList false (by omega) (by omega) h1;exact ⟨this.1,by omega,by omega⟩
theorem Zbr {dict:ByteArray} {l:List Tk.T} (h:Zo dict l=0):Small l:=by
 obtain ⟨h1,_,h3⟩:=ZbM h;refine ⟨by omega,fun t ht=>?_⟩;rcases h1 t ht with h | h <;> omega
theorem Zds {l:List Tk.T} (h:Small l):Sane l:=⟨by have:=h.1;omega,fun t ht=>by have:=h.2 t ht;omega⟩
theorem Zun {t:Tk.T} (h:Okt t) (r:List UInt8):Tk.one ⟨(tb t++r).toArray⟩=some (t,(tb t).length):=by
 unfold Tk.one tb;rcases h with ⟨h0,h1,h2,h3⟩ | ⟨h0,h1,h2,h3,h4⟩
 ·rw [if_pos h0];have hl:t.lit.data.toList.length=t.lit.size:=by simp
  have hf:Nm.Zl (⟨(Nm.nb (2*t.lit.size)++t.lit.data.toList++r).toArray⟩:ByteArray).data.toList=some (2*t.lit.size,(Nm.nb (2*t.lit.size)).length):=by
   show Nm.Zl (Nm.nb (2*t.lit.size)++t.lit.data.toList++r).toArray.toList=_;rw [List.toList_toArray,List.append_assoc];exact Nm.ZeD _ _ (by omega)
  rw [hf];simp only;rw [if_neg (by omega),if_neg]
  ·congr 2
   ·obtain ⟨x,f,n⟩:=t;simp only at h1 h2;subst h1 h2
    congr 1
    apply Nm.ZG;rw [Tk.Zab];show (((Nm.nb (2*x.size)++x.data.toList++r).toArray.toList).drop _).take _=_;rw [List.toList_toArray,List.append_assoc,List.drop_left,show (Nm.nb (2*x.size)).length+2*x.size / 2 - (Nm.nb (2*x.size)).length=x.data.toList.length by simp];exact List.take_left ..
   ·rw [List.length_append,hl];omega
  ·show ¬ (Nm.nb (2*t.lit.size)++t.lit.data.toList++r).toArray.size - _<_;simp only [List.size_toArray,List.length_append,hl];omega
 ·rw [if_neg (by omega)]
  have hf:Nm.Zl (⟨(Nm.nb (2*t.len+1).toNat++Nm.nb t.far.toNat++r).toArray⟩:ByteArray).data.toList=some ((2*t.len+1).toNat,(Nm.nb (2*t.len+1).toNat).length):=by
   show Nm.Zl (Nm.nb (2*t.len+1).toNat++Nm.nb t.far.toNat++r).toArray.toList=_;rw [List.toList_toArray,List.append_assoc];exact Nm.ZeD _ _ (by omega)
  rw [hf];simp only;rw [if_pos (by omega),Tk.ZS]
  have hg:Nm.Zl ((⟨(Nm.nb (2*t.len+1).toNat++Nm.nb t.far.toNat++r).toArray⟩:ByteArray).data.toList.drop (Nm.nb (2*t.len+1).toNat).length)=some (t.far.toNat,(Nm.nb t.far.toNat).length):=by
   show Nm.Zl ((Nm.nb (2*t.len+1).toNat++Nm.nb t.far.toNat++r).toArray.toList.drop _)=_;rw [List.toList_toArray,List.append_assoc,List.drop_left];exact Nm.ZeD _ _ (by omega)
  rw [hg];simp only
  congr 2
  ·obtain ⟨x,f,n⟩:=t;simp only at h0 h1 h2 h3 h4
   congr 1
   ·apply Nm.ZG;have:x.data.toList.length=0:=h0;rw [List.eq_nil_of_length_eq_zero this]
   ·simp only;omega
   ·simp only;omega
  ·rw [List.length_append]
theorem Zve:∀ (l:List Tk.T),(∀ t ∈ l,Okt t)->Tk.D ⟨(tbs l).toArray⟩=some l:=by
 intro l
 induction l with
 | nil=>intro _;exact Tk.Zqx rfl
 | cons t l ih =>
  intro h;rw [show tbs (t :: l)=tb t++tbs l from rfl,Tk.Zhq (Zun (h t (by simp)) (tbs l))]
  have e:(⟨(tb t++tbs l).toArray⟩:ByteArray).extract (tb t).length (⟨(tb t++tbs l).toArray⟩:ByteArray).size=⟨(tbs l).toArray⟩:=by
   apply Nm.ZG;rw [Tk.ZS];show (tb t++tbs l).toArray.toList.drop _=(tbs l).toArray.toList;rw [List.toList_toArray,List.toList_toArray,List.drop_left]
  rw [e,ih (fun u hu=>h u (by simp [hu]))];rfl
theorem ZuY {s:ByteArray} {t:Tk.T} {k:Nat} (h:Tk.one s=some (t,k)) (ho:Okt t):tb t=s.data.toList.take k:=by
 unfold Tk.one at h;have hl:s.data.toList.length=s.size:=by simp
 cases hf:Nm.Zl s.data.toList with
 | none=>rw [hf] at h;simp at h
 | some x =>
  obtain ⟨n,j⟩:=x;rw [hf] at h;simp only at h;obtain ⟨f1,f2,f3,f4,f5⟩:=Nm.Zai hf;by_cases hp:n % 2=1
  ·rw [if_pos hp] at h
   cases hg:Nm.Zl (s.extract j s.size).data.toList with
   | none=>rw [hg] at h;simp at h
   | some y =>
    obtain ⟨f,i⟩:=y;rw [hg] at h;simp only [Option.some.injEq,Prod.mk.injEq] at h;obtain ⟨rfl,rfl⟩:=h;obtain ⟨g1,g2,g3,g4,g5⟩:=Nm.Zai hg;rw [Tk.ZS] at g2;unfold tb;rw [if_neg (fun h=>h rfl)];simp only;rw [show (2*((n / 2:Nat):Int)+1).toNat=n by omega,show ((f:Nat):Int).toNat=f by omega,f2,g2,List.take_add]
  ·rw [if_neg hp] at h;by_cases hb:s.size - j<n / 2
   ·rw [if_pos hb] at h;simp at h
   ·rw [if_neg hb] at h;simp only [Option.some.injEq,Prod.mk.injEq] at h;obtain ⟨rfl,rfl⟩:=h;have hz:(s.extract j (j+n / 2)).size=n / 2:=by simp;omega
    unfold tb;rcases ho with ho | ho
    ·rw [if_pos ho.1];simp only;rw [hz,show 2*(n / 2)=n by omega,f2,Tk.Zab,show j+n / 2 - j=n / 2 by omega,List.take_add]
    ·exact absurd ho.2.1 (by simp)
theorem Zvo:∀ (n:Nat) (s:ByteArray) (l:List Tk.T),s.size<=n->Tk.D s=some l->(∀ t ∈ l,Okt t)->tbs l=s.data.toList:=by
 intro n
 induction n with
 | zero =>
  intro s l h1 h2 _;rw [Tk.Zqx (by omega)] at h2
  cases h2
  have:s.data.toList.length=0:=show s.size=0 by omega
  rw [List.eq_nil_of_length_eq_zero this];rfl
 | succ n ih =>
  intro s l h1 h2 h3;by_cases h0:s.size=0
  ·exact ih s l (by omega) h2 h3
  ·cases ho:Tk.one s with
   | none=>rw [Tk.Zhi h0 ho] at h2;cases h2
   | some x =>
    obtain ⟨t,k⟩:=x;have hp:=Tk.Zdg ho;rw [Tk.Zhq ho] at h2
    cases hD:Tk.D (s.extract k s.size) with
    | none=>rw [hD] at h2;cases h2
    | some m =>
     rw [hD] at h2;simp only [Option.map_some,Option.some.injEq] at h2;subst h2;have:=ih (s.extract k s.size) m (by rw [Tk.Zn];omega) hD (fun u hu=>h3 u (by simp [hu]));rw [Tk.ZS] at this;rw [show tbs (t :: m)=tb t++tbs m from rfl,this,ZuY ho (h3 t (by simp)),List.take_append_drop]
theorem ZeB {dict s:ByteArray} {l:List Tk.T} (hd:dict.size<=256) (h:ZC dict s=some l):Tk.D s=some l/\Zo dict l=0:=by
 unfold ZC at h
 cases hD:Tk.D s with
 | none=>rw [hD] at h;simp at h
 | some m =>
  rw [hD] at h;simp only at h;by_cases hr:(Tk.run dict.size dict.data.toList false m).1=0
  ·rw [if_pos hr] at h
   cases h
   refine ⟨rfl,?_⟩;unfold Zo;rw [if_neg (by omega),hr]
  ·rw [if_neg hr] at h;cases h
theorem ZmM {dict s:ByteArray} {l:List Tk.T} (hD:Tk.D s=some l) (hc:Zo dict l=0):ZC dict s=some l:=by
 unfold ZC;rw [hD];simp only;rw [if_pos (ZfR hc).2]
theorem ZjN {dict s:ByteArray} {l:List Tk.T} (hd:dict.size<=256) (h:ZC dict s=some l):(⟨(tbs l).toArray⟩:ByteArray)=s/\Zo dict l=0:=by
 obtain ⟨h1,h2⟩:=ZeB hd h;refine ⟨?_,h2⟩;rw [Zvo s.size s l (Nat.le_refl _) h1 (ZbM h2).1,Nm.Zmz]
theorem Zdx {dict s:ByteArray} (hd:dict.size<=256) (h:1024<s.size):ZC dict s=none:=by
 cases hr:ZC dict s with
 | none=>rfl
 | some l =>
  obtain ⟨h1,h2⟩:=ZjN hd hr;have:=(ZbM h2).2.1;rw [<-h1] at h;have e:(⟨(tbs l).toArray⟩:ByteArray).size=(tbs l).length:=rfl;omega
theorem ZgE {dict s:ByteArray} (hd:dict.size<=256):ZbA dict s=ZC dict s:=by
 unfold ZbA ZC
 cases hD:Tk.D s with
 | none=>rfl
 | some l =>
  simp only;by_cases hr:(Tk.run dict.size dict.data.toList false l).1=0
  ·have hc:Zo dict l=0:=by unfold Zo;rw [if_neg (by omega),hr]
   rw [if_pos hr,if_pos ⟨(ZbM hc).2.2,hc⟩]
  ·have hc:¬ Zo dict l=0:=by unfold Zo;rw [if_neg (by omega)];exact hr
   rw [if_neg hr,if_neg (fun h=>hc h.2)]
theorem Zfn {dict:ByteArray} {l:List Tk.T} (hc:Zo dict l=0):ZC dict ⟨(tbs l).toArray⟩=some l:=ZmM (Zve l (ZbM hc).1) hc
theorem Zmw (l:List UInt8) (a far:Nat) (h1:1<=far) (h2:far<=a):∀ n,(∀ j,j<n->l[a - far+j]?=l[a+j]?)->a+n<=l.length->Tk.copy far n (l.take a)=l.take (a+n):=by
 intro n
 induction n with
 | zero=>intro _ _;rfl
 | succ n ih =>
  intro h hl;rw [Tk.Zew,ih (fun j hj=>h j (by omega)) (by omega)];have hlen:(l.take (a+n)).length=a+n:=by rw [List.length_take];omega
  rw [hlen,List.getD_eq_getElem?_getD,List.getElem?_take,if_pos (by omega),show a+n - far=a - far+n by omega,h n (by omega),List.getElem?_eq_getElem (show a+n<l.length by omega),Option.getD_some,show a+(n+1)=(a+n)+1 by omega,List.take_add_one,List.getElem?_eq_getElem (show a+n<l.length by omega)];rfl
theorem Zpf {d:Nat} {s:List UInt8} {p:Bool} {f n:Nat} (h1:3<=n) (h2:n<=64) (h3:1<=f) (h4:f<=s.length) (h5:s.length+n<=d+512):Tk.err d s p ⟨⟨#[]⟩,(f:Nat),(n:Nat)⟩=0:=by
 unfold Tk.err;rw [if_neg (fun h=>h rfl),if_neg (by simp only;omega),if_neg (by simp only;omega)]
theorem ZoC {s:List UInt8} {f n:Nat}:Tk.make s ⟨⟨#[]⟩,(f:Nat),(n:Nat)⟩=Tk.copy f n s:=by
 unfold Tk.make;rw [if_neg (fun h=>h rfl)];rfl
theorem Ztb {d:Nat} {s:List UInt8} {x:ByteArray} (h0:x.size ≠ 0) (h5:s.length+x.size<=d+512):Tk.err d s false ⟨x,0,0⟩=0:=by
 unfold Tk.err;rw [if_pos h0,if_neg (by simp),if_neg (by simp only;omega)]
theorem Zpi {s:List UInt8} {x:ByteArray} (h0:x.size ≠ 0):Tk.make s ⟨x,0,0⟩=s++x.data.toList:=by
 unfold Tk.make;rw [if_pos h0]
theorem ZlY (s:ByteArray) (d f a:Nat) (m:List Tk.T) (h1:f<=a) (h2:a<=s.size) (h3:s.size<=d+512):∃ p,Tk.run d (s.data.toList.take f) false (Tk.lay s f a++m)=Tk.run d (s.data.toList.take a) p m:=by
 have hl:s.data.toList.length=s.size:=by simp
 unfold Tk.lay;by_cases h:f<a
 ·rw [if_pos h];have hz:(s.extract f a).size=a - f:=by simp;omega
  have hlen:(s.data.toList.take f).length=f:=by rw [List.length_take];omega
  refine ⟨decide ((s.extract f a).size ≠ 0),?_⟩;rw [List.cons_append,List.nil_append,Tk.Zal (Ztb (by omega) (by rw [hlen,hz];omega)),Zpi (by omega),Tk.Zab,<-List.take_add,show f+(a - f)=a by omega]
 ·rw [if_neg h];refine ⟨false,?_⟩;rw [show f=a by omega];rfl
theorem Zvt (s:ByteArray) (d:Nat) (h3:s.size<=d+512):∀ (n a f:Nat),s.size - a<=n->f<=a->a<=s.size->Tk.run d (s.data.toList.take f) false (Tk.P s a f)=(0,s.data.toList):=by
 have hl:s.data.toList.length=s.size:=by simp
 intro n
 induction n with
 | zero =>
  intro a f h1 h2 h4;rw [Tk.ZsH (by omega)];obtain ⟨p,hp⟩:=ZlY s d f a [] h2 h4 h3;rw [List.append_nil] at hp;rw [hp,Tk.run,List.take_of_length_le (by omega)]
 | succ n ih =>
  intro a f h1 h2 h4;by_cases ha:a<s.size
  ·by_cases hb:(Tk.bst s.data.toList a).2<3
   ·rw [Tk.ZrP ha hb];exact ih (a+1) f (by omega) (by omega) (by omega)
   ·rw [Tk.Znt ha hb];obtain ⟨b1,b2⟩:=Tk.ZjT s.data.toList a;generalize Tk.bst s.data.toList a=b at *;obtain ⟨far,len⟩:=b;simp only at hb b1 b2 |-
    rcases b2 with b2 | ⟨b2,b3,b4,b5⟩
    ·simp only [Prod.mk.injEq] at b2;omega
    ·unfold Tk.most at b1;have hlen:(s.data.toList.take a).length=a:=by rw [List.length_take];omega
     obtain ⟨p,hp⟩:=ZlY s d f a (⟨⟨#[]⟩,(far:Nat),(len:Nat)⟩ :: Tk.P s (a+len) (a+len)) h2 h4 h3;rw [hp,Tk.Zal (Zpf (by omega) (by omega) b2 (by omega) (by omega)),ZoC,Zmw s.data.toList a far b2 b3 len (fun j hj=>Tk.ZjK _ _ _ _ j (by rw [<-b5];exact hj)) (by omega)];exact ih (a+len) (a+len) (by omega) (nl _) (by omega)
  ·exact ih a f (by omega) h2 h4
theorem Zbs (dict text:ByteArray) (hd:dict.size<=256) (ht:text.size<=512):Zo dict (Tk.P (dict++text) dict.size dict.size)=0/\Zau dict (Tk.P (dict++text) dict.size dict.size)=text:=by
 have h:=Zvt (dict++text) dict.size (by rw [Nm.apps];omega) _ dict.size dict.size (nl _) (nl _) (by rw [Nm.apps];omega);have hl:dict.data.toList.length=dict.size:=by simp
 rw [Nm.appd,<-hl,List.take_left] at h;rw [hl] at h
 have hc:Zo dict (Tk.P (dict++text) dict.size dict.size)=0:=by
  unfold Zo;rw [if_neg (by omega),h]
 refine ⟨hc,?_⟩;unfold Zau;rw [if_neg (by rw [hc];simp),h];simp only;rw [<-hl,List.drop_left,Nm.Zmz]
namespace Bk
def ptK (s:ByteArray) (k:Nat):Nat->Int:=fun i=>if i<2*k then (if i % 2=0 then (Cd.at8 s (i / 2) / 16:Nat) else (Cd.at8 s (i / 2) % 16:Nat)) else 0
def pt (s:ByteArray):Nat->Int:=ptK s 8
theorem ZcC (s:ByteArray) (k:Nat) (i:Nat):upd (upd (ptK s k) (2*k) (Cd.at8 s k / 16:Nat)) (2*k+1) (Cd.at8 s k % 16:Nat) i=ptK s (k+1) i:=by
 unfold upd ptK;by_cases h1:i=2*k+1
 ·subst h1;rw [if_pos rfl,if_pos (by omega),if_neg (by omega),show (2*k+1) / 2=k by omega]
 ·rw [if_neg h1];by_cases h2:i=2*k
  ·subst h2;rw [if_pos rfl,if_pos (by omega),if_pos (by omega),show 2*k / 2=k by omega]
  ·rw [if_neg h2];by_cases h3:i<2*k
   ·rw [if_pos h3,if_pos (show i<2*(k+1) by omega)]
   ·rw [if_neg h3,if_neg (show ¬ i<2*(k+1) by omega)]
def whl (s:ByteArray):ByteArray × Int:=if 512<s.size then (⟨#[]⟩,1) else (s,0)
def ply (dict s:ByteArray):ByteArray × Int:=match ZC dict s with | none=>(⟨#[]⟩,1) | some l=>(Zau dict l,0)
def enc (s:ByteArray):ByteArray:=(⟨(jn (Cd.bld (hv s)).1).toArray⟩:ByteArray)++⟨(Nm.nb s.size).toArray⟩++(Cd.wrt (Cd.bld (hv s)).1 s).1
theorem ZmO {c:Nat->Int} (h:Cd.InR c 2048 16):Cd.InR (Cd.bld c).1 15 16:=by
 by_cases h0:(Cd.bld c).2=0
 ·exact (Cd.Zd (Cd.ZjR c h0).1).1
 ·have e:(Cd.bld c).1=fun _=>0:=by
   unfold Cd.bld at h0 |-
   rw [if_neg (fun h9=>h9 h)] at h0 |-
   by_cases h1:(Cd.lt2 c 16).1=-1
   ·rw [if_pos h1]
   ·rw [if_neg h1] at h0;by_cases h2:(Cd.lt2 c 16).2=-1
    ·rw [if_pos h2] at h0;exact absurd rfl h0
    ·rw [if_neg h2] at h0;exact absurd rfl h0
  rw [e];intro i _;exact ⟨Int.le_refl _,by show (0:Int)<=15;decide⟩
end Bk
theorem ZnC (s:ByteArray) (w:World) (hs:s.size<=140737488355328) :
 Calls Tryz.prog 168 #[.string s] w fun e w'=>e=.returned (.tuple #[.string (Bk.whl s).1,.int .i64 (Bk.whl s).2])/\Below w.heap.size w w':=by
 by_cases h:512<s.size
 ·have e:Bk.whl s=(⟨#[]⟩,1):=if_pos h;rw [e];have d1:decide (512<(s.size:Int))=true:=by simp;omega
  have h':512<(s.size:Int):=by omega
  clear e h;go_enter Tryz.func168,Tryz.ntmps168
  go_wp2_with fail
  go_ret2
  exact ⟨rfl,bR _ _⟩
 ·have e:Bk.whl s=(s,0):=if_neg h;rw [e];have d1:decide (512<(s.size:Int))=false:=by simp;omega
  have hc:=fun w=>ZP s w (by omega)
  clear e h;go_enter Tryz.func168,Tryz.ntmps168
  go_wp2_with fail
  refine (hc _).mono ?_;rintro e w1 ⟨rfl,G⟩;go_wp2_with fail
  go_ret2
  exact ⟨rfl,G⟩
theorem Zcz (dict s:ByteArray) (w:World) (hd:dict.size<=256) :
 Calls Tryz.prog 169 #[.string dict,.string s] w fun e w'=>e=.returned (.tuple #[.string (Bk.ply dict s).1,.int .i64 (Bk.ply dict s).2])/\Below w.heap.size w w':=by
 have c1:=fun w=>Zpu dict s w hd (fun h=>Zdx hd h)
 cases hq:ZC dict s with
 | none =>
  have e:Bk.ply dict s=(⟨#[]⟩,1):=by rw [Bk.ply,hq]
  rw [e]
  have c2:∀ w,Calls Tryz.prog 187 #[.string dict,.string s] w fun e w'=>Below w.heap.size w w'/\e=.returned (.tuple #[.slice none 0 0,.int .i64 1]):=fun w=>(c1 w).mono fun e w' h=>by
   rcases h with ⟨h1,⟨_,h2⟩ | ⟨l,a,c,h2,_⟩⟩
   ·exact ⟨h1,h2⟩
   ·rw [hq] at h2;cases h2
  clear e hq c1;go_enter Tryz.func169,Tryz.ntmps169
  go_wp2_with fail
  refine (c2 _).mono ?_;rintro e w1 ⟨G,rfl⟩;go_wp2_with fail
  go_ret2
  exact ⟨rfl,G⟩
 | some l =>
  have e:Bk.ply dict s=(Zau dict l,0):=by rw [Bk.ply,hq]
  rw [e]
  have c2:∀ w,Calls Tryz.prog 187 #[.string dict,.string s] w fun e w'=>Below w.heap.size w w'/\∃ ad cap,e=.returned (.tuple #[.slice ad l.length cap,.int .i64 0])/\SlAt w' ad l:=fun w=>(c1 w).mono fun e w' h=>by
   rcases h with ⟨h1,⟨h2,_⟩ | ⟨k,a,c,h2,h3,h4⟩⟩
   ·rw [hq] at h2;cases h2
   ·rw [hq] at h2;cases h2;exact ⟨h1,a,c,h3,h4⟩
  have r1:=ZjN hd hq;have c3:=fun ad cap w hl=>ZpK dict ad cap l w hl (Zds (Zbr r1.2))
  rw [r1.2] at c3;generalize Zau dict l=X at *;clear e hq c1 r1;go_enter Tryz.func169,Tryz.ntmps169
  go_wp2_with fail
  refine (c2 _).mono ?_;rintro e w1 ⟨G1,ad,cap,rfl,S1⟩;go_wp2_with fail
  refine (c3 _ _ _ S1).mono ?_;rintro e w2 ⟨rfl,G2⟩;go_wp2_with fail
  go_ret2
  exact ⟨rfl,bch G1 G2 (nl _)⟩
theorem ZlQ (s:ByteArray) (w:World) (hs:s.size=8) :
 Calls Tryz.prog 190 #[.string s] w fun e w'=>e=.returned (.agg (arr (Bk.pt s)))/\Below w.heap.size w w':=by
 obtain ⟨R2,R3⟩:=RowAt.two w (fun _=>0) (fun _=>0);have HB:=Zkk w (.cells (arr fun _=>0) 127) (.cells (arr fun _=>0) 127);rw [<-Zm] at R2 R3 HB;have Hs:Hid (s.size=8):=hs
 obtain ⟨r,hr⟩:∃ r,Bk.pt s=r:=⟨_,rfl⟩
 rw [hr];have Hr:Hid (Bk.ptK s 8=r):=hr;clear hr hs;go_enter Tryz.func190,Tryz.ntmps190
 go_wp2_with fail
 rw [Zm] at R2 R3 HB;rw [Zm];generalize (w.alloc (.cells (arr fun _=>0) 127)).alloc (.cells (arr fun _=>0) 127)=w0 at *
 obtain ⟨g1,hg1⟩:∃ g1,g1=w.heap.size:=⟨_,rfl⟩
 have hq:Hid (g1<w.heap.size+1/\w.heap.size=g1):=by show _/\_;omega
 generalize w.heap.size+1=g3 at *;clear hg1;have R3':=R3.congr (f':=Bk.ptK s 0) (fun i _=>by simp [Bk.ptK]);go_loopw [5] (fun i wr=>∃ k:Nat,k<=8/\i=.int .i64 k/\RowAt wr w.heap.size (fun _=>0)/\RowAt wr g3 (Bk.ptK s k)/\Below w.heap.size w wr) (fun i _=>8 - (intOf i).toNat)
 case atStart=>exact ⟨0,by omega,rfl,R2,R3',HB⟩
 case round =>
  clear R2 R3 R3' HB;obtain ⟨k,hk,rfl,R2,R3,HB⟩:=hrel;by_cases hlt:k<8
  ·have hk1:decide ((k:Int)<8)=true:=by simp;omega
   have hk2:decide (k<8)=true:=by simp;omega
   have hks:k<s.size:=by have:=Hs.out;omega
   have hk3:(k:Int)<(s.size:Int):=by omega
   obtain ⟨x,hx⟩:∃ x:Int,(s[k].toNat:Int)=x:=⟨_,rfl⟩
   have hA:Cd.at8 s k=s[k].toNat:=by unfold Cd.at8;rw [Nm.ZN s k hks];rfl
   have hA2:=Cd.ZaC s k;have hx0:0<=x:=by omega
   have hx1:x<=255:=by omega
   obtain ⟨H,hH⟩:∃ H,Cd.at8 s k / 16=H:=⟨_,rfl⟩
   obtain ⟨L,hL⟩:∃ L,Cd.at8 s k % 16=L:=⟨_,rfl⟩
   have e1:x / 16=(H:Int):=by omega
   have e2:x % 16=(L:Int):=by omega
   have e3:x.tdiv 16=(H:Int):=by rw [Int.tdiv_eq_ediv_of_nonneg hx0];exact e1
   have e4:x.tmod 16=(L:Int):=by rw [Int.tmod_eq_emod_of_nonneg hx0];exact e2
   have hH2:H<16:=by omega
   have hL2:L<16:=by omega
   obtain ⟨K2,hK2e⟩:∃ K2,2*k=K2:=⟨_,rfl⟩
   obtain ⟨K3,hK3e⟩:∃ K3,2*k+1=K3:=⟨_,rfl⟩
   have hK2:K2<16:=by omega
   have hK3:K3<16:=by omega
   have m2:2*(k:Int)=(K2:Int):=by omega
   have m3:(K2:Int)+1=(K3:Int):=by omega
   have hK2i:(K2:Int)<16:=by omega
   have hK3i:(K3:Int)<16:=by omega
   have c1:=R3.cell K2 hK2;have f1:=R3.frozen K2;have S3:=R3.set K2 (H:Int);have S2:=R2.setFar (q:=g3) (by have:=hq.out;omega) K2 (.int .i64 (H:Int));have SB:=HB.setCell (p:=⟨g3,K2,none⟩) (by have:=hq.out;show _<=g3;omega) (.int .i64 (H:Int));have c2:=S3.cell K3 hK3;have f2:=S3.frozen K3;have T3:=(S3.set K3 (L:Int)).congr (f':=Bk.ptK s (k+1)) (fun i _=>by rw [<-hK2e,<-hK3e,<-hH,<-hL];exact Bk.ZcC s k i);have T2:=S2.setFar (q:=g3) (by have:=hq.out;omega) K3 (.int .i64 (L:Int));have TB:=SB.setCell (p:=⟨g3,K3,none⟩) (by have:=hq.out;show _<=g3;omega) (.int .i64 (L:Int));clear hA hA2 hH hL e1 e2 hK2e hK3e R2 R3 HB S2 S3 SB;go_wp2_with fail
   go_roundw
   case rel=>exact ⟨k+1,by omega,by go_num,T2,T3,TB⟩
   case measure=>simp [intOf];omega
  ·obtain rfl:k=8:=by omega
   rw [Hr.out] at R3;have hi1:=Zc r;go_wp2_with (first | refine wpList_load_row rfl 127 _ rfl g3 rfl 127 (arr r) (0,0) _ R3.2 U127 rfl hi1 ?_ | refine wpList_store_row rfl 127 _ _ rfl w.heap.size (arr r) rfl rfl 127 _ R2.2 hi1 (by rw [Zi,Zi]) (ZW _) ?_)
   have U2:=R2.setRow r;exact bodyPost_ret (v:=.agg (arr r)) (results_cell_row Tryz.results190 _ _ w.heap.size 127 _ (0,0) _ rfl U2.2 U127 rfl hi1) rfl ⟨rfl,Zq HB (nl _) _⟩
theorem ZkL (s:ByteArray) (w:World) (hs:s.size<=1024) :
 Calls Tryz.prog 129 #[.string s] w fun e w'=>e=.returned (.string (Bk.enc s))/\Below w.heap.size w w':=by
 have c1:=fun w=>ZkG s w hs
 have c2:=fun w=>Zgc (Bk.hv s) w
 have c3:=fun w=>ZgA (s.size:Int) w (by omega) (by omega)
 rw [Int.toNat_natCast] at c3;have c4:=fun w=>Zge (Cd.bld (Bk.hv s)).1 s w (by omega)
 have c5:=fun w=>ZkY (Cd.bld (Bk.hv s)).1 w (Bk.ZmO (Bk.ZoF s hs))
 have HE:Hid ((⟨(Bk.jn (Cd.bld (Bk.hv s)).1).toArray⟩:ByteArray)++⟨(Nm.nb s.size).toArray⟩++(Cd.wrt (Cd.bld (Bk.hv s)).1 s).1=Bk.enc s):=rfl
 have z1:(⟨(Bk.jn (Cd.bld (Bk.hv s)).1).toArray⟩:ByteArray).size<=8:=by
  show (Bk.jn _).toArray.size<=_;simp [Bk.jn,Bk.Zdm]
 have z2:(⟨(Nm.nb s.size).toArray⟩:ByteArray).size<=5:=by
  have:=Nm.Zt s.size (by omega);show (Nm.nb s.size).toArray.size<=_;simpa using this
 have z3:=ZjJ (Cd.bld (Bk.hv s)).1 s;have hiL:=Zc (Cd.bld (Bk.hv s)).1;have hb0:(s.size:Int)<=1024:=by omega
 generalize Bk.enc s=R at *;generalize (Cd.wrt (Cd.bld (Bk.hv s)).1 s).1=W at *;generalize (Cd.wrt (Cd.bld (Bk.hv s)).1 s).2=We at *;generalize (⟨(Bk.jn (Cd.bld (Bk.hv s)).1).toArray⟩:ByteArray)=J at *;generalize (⟨(Nm.nb s.size).toArray⟩:ByteArray)=N at *;generalize (Cd.bld (Bk.hv s)).1=L at *;generalize (Cd.bld (Bk.hv s)).2=E at *;generalize Bk.hv s=C at *;go_enter Tryz.func129,Tryz.ntmps129
 go_wp2_with fail
 refine (c1 _).mono ?_;rintro e w1 ⟨rfl,G1⟩;go_wp2_with fail
 refine (c2 _).mono ?_;rintro e w2 ⟨rfl,G2⟩;have B2:=bch G1 G2 (nl _);have L3:=RowAt.new w2 L;have B3:Below w.heap.size w (w2.alloc (.cells (arr L) 127)):=B2.alloc B2.size _;clear G1 G2 B2 c1 c2;go_wp2_with (refine wpList_store_row rfl 127 _ _ rfl w2.heap.size (arr L) rfl rfl 127 _ (heap_alloc_last w2 _) hiL rfl (ZW _) ?_;rw [World.setRow_alloc_new])
 generalize w2.alloc (.cells (arr L) 127)=wa at *;generalize w2.heap.size=gl at *;refine (c3 _).mono ?_;rintro e w3 ⟨rfl,G3⟩;have L4:=L3.below G3;have B4:=bch B3 G3 (nl _);clear L3 B3 G3 c3;go_wp2_with (refine wpList_load_row rfl 127 _ rfl gl rfl 127 (arr L) (0,0) _ L4.2 U127 rfl hiL ?_)
 refine (c4 _).mono ?_;rintro e w4 ⟨rfl,G4⟩;have L5:=L4.below G4;have B5:=bch B4 G4 (nl _);clear L4 B4 G4 c4;go_wp2_with (refine wpList_load_row rfl 127 _ rfl gl rfl 127 (arr L) (0,0) _ L5.2 U127 rfl hiL ?_)
 refine (c5 _).mono ?_;rintro e w5 ⟨rfl,G5⟩;have B6:=bch B5 G5 (nl _);clear L5 B5 G5 c5;go_wp2_with fail
 go_ret
 exact ⟨congrArg (fun s=>Ending.returned (Value.string s)) HE.out,B6⟩
namespace Bk
def dec (s:ByteArray):ByteArray × Int :=
 if s.size<8 then (⟨#[]⟩,1) else match Nm.Zl (s.extract 8 s.size).data.toList with
  | none=>(⟨#[]⟩,1)
  | some (n,k)=>if (Cd.rd (pt (s.extract 0 8)) ((s.extract 8 s.size).extract k (s.extract 8 s.size).size) (n:Nat)).2=0 then ((Cd.rd (pt (s.extract 0 8)) ((s.extract 8 s.size).extract k (s.extract 8 s.size).size) (n:Nat)).1,0) else (⟨#[]⟩,1)
theorem Zjm {s:ByteArray} (h:¬ s.size<8) (hq:Nm.Zl (s.extract 8 s.size).data.toList=none):dec s=(⟨#[]⟩,1):=by rw [dec,if_neg h,hq]
theorem Zgs {s:ByteArray} {n k:Nat} (h:¬ s.size<8) (hq:Nm.Zl (s.extract 8 s.size).data.toList=some (n,k)):dec s=if (Cd.rd (pt (s.extract 0 8)) ((s.extract 8 s.size).extract k (s.extract 8 s.size).size) (n:Nat)).2=0 then ((Cd.rd (pt (s.extract 0 8)) ((s.extract 8 s.size).extract k (s.extract 8 s.size).size) (n:Nat)).1,0) else (⟨#[]⟩,1):=by rw [dec,if_neg h,hq]
end Bk
theorem Zn (s:ByteArray) (a b:Nat):(s.extract a b).size=min b s.size - a:=by simp [ByteArray.size_extract]
theorem ZkJ (s:ByteArray) (w:World) (hs:s.size<=140737488355328) :
 Calls Tryz.prog 170 #[.string s] w fun e w'=>e=.returned (.tuple #[.string (Bk.dec s).1,.int .i64 (Bk.dec s).2])/\Below w.heap.size w w':=by
 by_cases h8:s.size<8
 ·have e:Bk.dec s=(⟨#[]⟩,1):=if_pos h8;rw [e];have d1:decide ((s.size:Int)<8)=true:=by simp;omega
  have h':(s.size:Int)<8:=by omega
  clear e h8;go_enter Tryz.func170,Tryz.ntmps170
  go_wp2_with fail
  go_ret2
  exact ⟨rfl,bR _ _⟩
 ·have d1:decide ((s.size:Int)<8)=false:=by simp;omega
  have h8':(8:Int)<=(s.size:Int):=by omega
  have h8n:8<=s.size:=by omega
  have z8:=Zn s 8 s.size;have z0:=Zn s 0 8
  cases hq:Nm.Zl (s.extract 8 s.size).data.toList with
  | none =>
   rw [Bk.Zjm h8 hq];have c1:=fun w=>Zgg (s.extract 8 s.size) w (by omega) hq
   clear hq h8 z8 z0
   have et:∃ t,s.extract 8 s.size=t:=⟨_,rfl⟩
   obtain ⟨t,et⟩:=et;rw [et] at c1;go_enter Tryz.func170,Tryz.ntmps170
   go_wp2_with fail
   refine (c1 _).mono ?_;rintro e w1 ⟨rfl,G⟩;go_wp2_with fail
   go_ret2
   exact ⟨rfl,G⟩
  | some x =>
   obtain ⟨n,k⟩:=x;have hD:=Bk.Zgs h8 hq;have c1:=fun w=>Zbw (s.extract 8 s.size) w n k (by omega) hq
   have c2:=fun w=>ZlQ (s.extract 0 8) w (by omega)
   have zz:=Zn (s.extract 8 s.size) k (s.extract 8 s.size).size;have c3:=fun w=>ZgG (Bk.pt (s.extract 0 8)) ((s.extract 8 s.size).extract k (s.extract 8 s.size).size) (n:Nat) w (by omega)
   clear hq h8 z8 z0 zz;generalize Bk.dec s=D at *;have hip:=Zc (Bk.pt (s.extract 0 8));generalize (Cd.rd (Bk.pt (s.extract 0 8)) ((s.extract 8 s.size).extract k (s.extract 8 s.size).size) (n:Nat)).1=X at *;generalize (Cd.rd (Bk.pt (s.extract 0 8)) ((s.extract 8 s.size).extract k (s.extract 8 s.size).size) (n:Nat)).2=E at *;generalize Bk.pt (s.extract 0 8)=P at *
   obtain ⟨t0,e0⟩:∃ t,s.extract 0 8=t:=⟨_,rfl⟩
   obtain ⟨t,et⟩:∃ t,s.extract 8 s.size=t:=⟨_,rfl⟩
   rw [et] at c1 c3;rw [e0] at c2;generalize t.extract k t.size=r at *;by_cases hE:E=0
   ·rw [if_pos hE] at hD;subst hD;subst hE;go_enter Tryz.func170,Tryz.ntmps170
    go_wp2_with fail
    refine (c1 _).mono ?_;rintro e w1 ⟨rfl,G1⟩;go_wp2_with fail
    refine (c2 _).mono ?_;rintro e w2 ⟨rfl,G2⟩;go_wp2_with fail
    refine (c3 _).mono ?_;rintro e w3 ⟨rfl,G3⟩;go_wp2_with fail
    go_ret2
    exact ⟨rfl,bch (bch G1 G2 (nl _)) G3 (nl _)⟩
   ·rw [if_neg hE] at hD;subst hD;have dE:(E != 0)=true:=by simpa using hE
    clear hE;go_enter Tryz.func170,Tryz.ntmps170
    go_wp2_with fail
    refine (c1 _).mono ?_;rintro e w1 ⟨rfl,G1⟩;go_wp2_with fail
    refine (c2 _).mono ?_;rintro e w2 ⟨rfl,G2⟩;go_wp2_with fail
    refine (c3 _).mono ?_;rintro e w3 ⟨rfl,G3⟩;go_wp2_with fail
    go_ret2
    exact ⟨rfl,bch (bch G1 G2 (nl _)) G3 (nl _)⟩
namespace Bk
def unp (dict b:ByteArray):ByteArray × Int :=
 if 256<dict.size then (⟨#[]⟩,2) else if b.size=0 then (⟨#[]⟩,1) else
 if Cd.at8 b 0=0 then whl (b.extract 1 b.size) else if Cd.at8 b 0=1 then ply dict (b.extract 1 b.size)
 else if Cd.at8 b 0=2 then (if (dec (b.extract 1 b.size)).2=0 then ply dict (dec (b.extract 1 b.size)).1 else (⟨#[]⟩,(dec (b.extract 1 b.size)).2)) else (⟨#[]⟩,1)
theorem Zjo {b:ByteArray} (h:b.size ≠ 0) (x:UInt8):b.extract 0 1=⟨#[x]⟩ ↔ Cd.at8 b 0=x.toNat:=by
 have hl:0<b.data.size:=by have:b.size=b.data.size:=rfl;omega
 have e:(b.extract 0 1).data.toList=[b.data[0]]:=by
  simp only [ByteArray.data_extract,Array.toList_extract]
  cases b with
  | mk d =>
   obtain ⟨l⟩:=d
   cases l with
   | nil=>simp at hl
   | cons a l=>simp
 have e2:Cd.at8 b 0=b.data[0].toNat:=by
  unfold Cd.at8;rw [Array.getElem?_toList,Array.getElem?_eq_getElem hl];rfl
 rw [e2];constructor
 ·intro h9;rw [h9] at e;simp at e;rw [e]
 ·intro h9;apply ByteArray.ext;apply Array.toList_inj.1;rw [e];have:b.data[0]=x:=UInt8.toNat_inj.1 h9;rw [this]
theorem ZeU {b:ByteArray} (h:b.size ≠ 0) (x:UInt8):((b.extract 0 1).toList == [x])=decide (Cd.at8 b 0=x.toNat):=by
 have ex:[x]=(⟨#[x]⟩:ByteArray).toList:=by rw [ByteArray.toList_eq]
 rw [ex,ZdM];by_cases h1:Cd.at8 b 0=x.toNat
 ·rw [decide_eq_true h1,decide_eq_true ((Zjo h x).2 h1)]
 ·rw [decide_eq_false h1,decide_eq_false (fun h9=>h1 ((Zjo h x).1 h9))]
end Bk
theorem ZkF (dict b:ByteArray) (w:World) (hd0:dict.size<=140737488355328) (hb:b.size<=140737488355328) :
 Calls Tryz.prog 138 #[.string dict,.string b] w fun e w'=>e=.returned (.tuple #[.string (Bk.unp dict b).1,.int .i64 (Bk.unp dict b).2])/\Below w.heap.size w w':=by
 by_cases hd:256<dict.size
 ·have e:Bk.unp dict b=(⟨#[]⟩,2):=if_pos hd;rw [e];have d1:decide (256<(dict.size:Int))=true:=by simp;omega
  have h':256<(dict.size:Int):=by omega
  clear e hd;go_enter Tryz.func138,Tryz.ntmps138
  go_wp2_with fail
  go_ret2
  exact ⟨rfl,bR _ _⟩
 ·have d1:decide (256<(dict.size:Int))=false:=by simp;omega
  have hd':(dict.size:Int)<=256:=by omega
  by_cases h0:b.size=0
  ·have e:Bk.unp dict b=(⟨#[]⟩,1):=by rw [Bk.unp,if_neg hd,if_pos h0]
   rw [e]
   obtain rfl:b=⟨#[]⟩:=by
    apply ByteArray.ext;exact Array.eq_empty_of_size_eq_zero h0
   clear e hd h0;go_enter Tryz.func138,Tryz.ntmps138
   go_wp2_with fail
   go_ret2
   exact ⟨rfl,bR _ _⟩
  ·have hne:b.toList.isEmpty=false:=by
    rw [ByteArray.toList_eq,Bool.eq_false_iff];intro e;rw [List.isEmpty_iff] at e;apply h0;have:=congrArg List.length e;rw [Cd.Zf] at this;simpa using this
   have hU:Bk.unp dict b=if Cd.at8 b 0=0 then Bk.whl (b.extract 1 b.size) else if Cd.at8 b 0=1 then Bk.ply dict (b.extract 1 b.size) else if Cd.at8 b 0=2 then (if (Bk.dec (b.extract 1 b.size)).2=0 then Bk.ply dict (Bk.dec (b.extract 1 b.size)).1 else (⟨#[]⟩,(Bk.dec (b.extract 1 b.size)).2)) else (⟨#[]⟩,1):=by rw [Bk.unp,if_neg hd,if_neg h0]
   have k0:=Bk.ZeU h0 0;have k1:=Bk.ZeU h0 1;have k2:=Bk.ZeU h0 2;have hs1:=Zn b 1 b.size;have hb1:(1:Int)<=(b.size:Int):=by omega
   have hb1n:1<=b.size:=by omega
   have hbs:(b.extract 1 b.size).size<=140737488355328:=by omega
   rw [hU];clear hU hs1 h0;by_cases e0:Cd.at8 b 0=0
   ·rw [if_pos e0];have c1:=fun w=>ZnC (b.extract 1 b.size) w hbs
    rw [decide_eq_true (by exact e0)] at k0;generalize (Bk.whl (b.extract 1 b.size)).1=X at *;generalize (Bk.whl (b.extract 1 b.size)).2=E at *;clear k1 k2 e0 hd;go_enter Tryz.func138,Tryz.ntmps138
    go_wp2_with fail
    refine (c1 _).mono ?_;rintro e w1 ⟨rfl,G⟩;go_wp2_with fail
    go_ret2
    exact ⟨rfl,G⟩
   ·rw [if_neg e0];rw [decide_eq_false (by exact e0)] at k0;by_cases e1:Cd.at8 b 0=1
    ·rw [if_pos e1];have c1:=fun w=>Zcz dict (b.extract 1 b.size) w (by omega)
     rw [decide_eq_true (by exact e1)] at k1;generalize (Bk.ply dict (b.extract 1 b.size)).1=X at *;generalize (Bk.ply dict (b.extract 1 b.size)).2=E at *;clear k2 e0 e1 hd;go_enter Tryz.func138,Tryz.ntmps138
     go_wp2_with fail
     refine (c1 _).mono ?_;rintro e w1 ⟨rfl,G⟩;go_wp2_with fail
     go_ret2
     exact ⟨rfl,G⟩
    ·rw [if_neg e1];rw [decide_eq_false (by exact e1)] at k1;by_cases e2:Cd.at8 b 0=2
     ·rw [if_pos e2];rw [decide_eq_true (by exact e2)] at k2;have c1:=fun w=>ZkJ (b.extract 1 b.size) w hbs
      have c2:=fun w=>Zcz dict (Bk.dec (b.extract 1 b.size)).1 w (by omega)
      by_cases hE:(Bk.dec (b.extract 1 b.size)).2=0
      ·rw [if_pos hE];rw [hE] at c1;generalize (Bk.ply dict (Bk.dec (b.extract 1 b.size)).1).1=X at *;generalize (Bk.ply dict (Bk.dec (b.extract 1 b.size)).1).2=E at *;generalize (Bk.dec (b.extract 1 b.size)).1=Y at *;clear e0 e1 e2 hd hE;go_enter Tryz.func138,Tryz.ntmps138
       go_wp2_with fail
       refine (c1 _).mono ?_;rintro e w1 ⟨rfl,G1⟩;go_wp2_with fail
       refine (c2 _).mono ?_;rintro e w2 ⟨rfl,G2⟩;go_wp2_with fail
       go_ret2
       exact ⟨rfl,bch G1 G2 (nl _)⟩
      ·rw [if_neg hE];generalize (Bk.dec (b.extract 1 b.size)).1=Y at *;generalize (Bk.dec (b.extract 1 b.size)).2=E at *;have dE:(E != 0)=true:=by simpa using hE
       clear e0 e1 e2 hd hE c2;go_enter Tryz.func138,Tryz.ntmps138
       go_wp2_with fail
       refine (c1 _).mono ?_;rintro e w1 ⟨rfl,G1⟩;go_wp2_with fail
       go_ret2
       exact ⟨rfl,G1⟩
     ·rw [if_neg e2];rw [decide_eq_false (by exact e2)] at k2;clear e0 e1 e2 hd;go_enter Tryz.func138,Tryz.ntmps138
      go_wp2_with fail
      go_ret2
      exact ⟨rfl,bR _ _⟩
namespace Bk
def xa (xs:List ByteArray) (i:Nat):ByteArray:=xs.getD i ⟨#[]⟩
def mnK (xs:List ByteArray):Nat->ByteArray
 | 0=>xa xs 0
 | i+1=>if (xa xs i).size<(mnK xs i).size then xa xs i else mnK xs i
theorem ZmN (xs:List ByteArray):mnK xs 1=xa xs 0:=by rw [mnK,mnK,if_neg (by omega)]
def TxAt (w:World) (g:Nat) (xs:List ByteArray):Prop:=g<w.heap.size/\∀ i,i<xs.length->w.cell? ⟨g,i,none⟩=some (.string (xa xs i))
theorem TxAt.below {w w':World} {g:Nat} {xs:List ByteArray} (h:TxAt w g xs) (hb:Below w.heap.size w w'):TxAt w' g xs:=⟨Nat.lt_of_lt_of_le h.1 hb.size,fun i hi=>by rw [<-h.2 i hi];exact hb.cell (p:=⟨g,i,none⟩) h.1⟩
theorem Zqm {xs:List ByteArray} {B:Nat} (h:∀ i,(xa xs i).size<=B):∀ i,(mnK xs i).size<=B:=by
 intro i
 induction i with
 | zero=>exact h 0
 | succ i ih =>
  rw [mnK];split
  ·exact h i
  ·exact ih
end Bk
theorem ZhF (a b:ByteArray) (w:World) (ha:a.size<=140737488355328) (hb:b.size<=140737488355328) :
 Calls Tryz.prog 131 #[.string a,.string b] w fun e w'=>e=.returned (.int .i64 ((a.size:Int) - (b.size:Int)))/\Below w.heap.size w w':=by
 have ha':(a.size:Int)<=140737488355328:=by omega
 have hb':(b.size:Int)<=140737488355328:=by omega
 go_enter Tryz.func131,Tryz.ntmps131
 go_wp2_with fail
 go_ret
 exact ⟨rfl,bR _ _⟩
theorem ZeW (xs:List ByteArray) (g cap:Nat) (w:World) (hx:Bk.TxAt w g xs) (hn:1<=xs.length) (hn2:xs.length<=1000) (hB:∀ i,(Bk.xa xs i).size<=1000000) :
 Calls Tryz.prog 130 #[.slice (some ⟨g,0,none⟩) xs.length cap,.func (.func 131) #[] #[]] w fun e w'=>e=.returned (.string (Bk.mnK xs xs.length))/\Below w.heap.size w w':=by
 have HX:Hid (∀ w',Bk.TxAt w' g xs->∀ i,i<xs.length->w'.cell? ⟨g,i,none⟩=some (.string (Bk.xa xs i))):=fun w' h=>h.2
 have c0:=HX.out w hx 0 (by omega);have HB:Hid (∀ i,(Bk.xa xs i).size<=1000000):=hB
 obtain ⟨r,hr⟩:∃ r,Bk.mnK xs xs.length=r:=⟨_,rfl⟩
 rw [hr];have Hr:Hid (Bk.mnK xs xs.length=r):=hr;have HM1:Hid (Bk.mnK xs 1=Bk.xa xs 0):=Bk.ZmN xs;have dn:decide ((xs.length:Int)<1)=false:=dF (by omega);have dn':decide (xs.length<1)=false:=dF (by omega);have hn':(1:Int)<=(xs.length:Int):=by omega
 have hn3:(0:Int)<(xs.length:Int):=by omega
 clear hr hB;go_enter Tryz.func130,Tryz.ntmps130
 go_wp2_with fail
 go_loopw [5,6] (fun m i wr=>∃ k:Nat,1<=k/\k<=xs.length/\i=.int .i64 k/\m=.string (Bk.mnK xs k)/\Bk.TxAt wr g xs/\Below w.heap.size w wr) (fun _ i _=>xs.length - (intOf i).toNat)
 case atStart=>exact ⟨1,by omega,hn,rfl,by rw [HM1.out],hx,bR _ _⟩
 case round =>
  clear c0 hx;obtain ⟨k,hk1,hk2,rfl,rfl,hx,B1⟩:=hrel;by_cases hlt:k<xs.length
  ·have d1:decide ((k:Int)<(xs.length:Int))=true:=by simp;omega
   have d1':decide (k<xs.length)=true:=by simp;omega
   have hki:(k:Int)<(xs.length:Int):=by omega
   have c1:=HX.out wr hx k hlt;have z1:=HB.out k;have z2:=Bk.Zqm HB.out k;have c2:=fun w=>ZhF (Bk.xa xs k) (Bk.mnK xs k) w (by omega) (by omega)
   have HN:Hid (Bk.mnK xs (k+1)=if (Bk.xa xs k).size<(Bk.mnK xs k).size then Bk.xa xs k else Bk.mnK xs k):=rfl
   obtain ⟨X,hXe⟩:∃ X,Bk.xa xs k=X:=⟨_,rfl⟩
   rw [hXe] at c1 z1 c2 HN;have HXk:Hid (Bk.xa xs k=X):=hXe;clear hXe;generalize Bk.mnK xs k=M at *;by_cases hs:X.size<M.size
   ·have d2:decide ((X.size:Int) - (M.size:Int)<0)=true:=zdT (by omega);have HN2:Hid (Bk.mnK xs (k+1)=X):=HN.out.trans (if_pos hs);clear HN;go_wp2_with fail
    refine (c2 _).mono ?_;rintro e w2 ⟨rfl,G⟩;have x2:=hx.below G;have B2:=bch B1 G (nl _);have c3:=HX.out w2 x2 k hlt;rw [show Bk.xa xs k=X from HXk.out] at c3;clear hx B1 G c2 c1;go_wp2_with fail
    go_roundw
    case rel=>exact ⟨k+1,by omega,by omega,by go_num,by rw [HN2.out],x2,B2⟩
    case measure=>simp [intOf];omega
   ·have d2:decide ((X.size:Int) - (M.size:Int)<0)=false:=dF (by omega);have HN2:Hid (Bk.mnK xs (k+1)=M):=HN.out.trans (if_neg hs);clear HN;go_wp2_with fail
    refine (c2 _).mono ?_;rintro e w2 ⟨rfl,G⟩;have x2:=hx.below G;have B2:=bch B1 G (nl _);clear hx B1 G c2 c1;go_wp2_with fail
    go_roundw
    case rel=>exact ⟨k+1,by omega,by omega,by go_num,by rw [HN2.out],x2,B2⟩
    case measure=>simp [intOf];omega
  ·obtain rfl:k=xs.length:=by omega
   have d1:decide ((xs.length:Int)<(xs.length:Int))=false:=by simp
   have d1':decide (xs.length<xs.length)=false:=by simp
   rw [Hr.out];go_wp2_with fail
   go_ret
   exact ⟨rfl,B1⟩
open Go.Maps Go.ChangeShapes
theorem Zsq {w:World} {B bm gp ga gf gl base:Nat} {s:ByteArray} {r a f:Nat} {v:Value} {l:List Tk.T} (h:PS w bm gp ga gf gl base s r a f v l) (hf:¬ f<a) :
 Calls Tryz.prog 155 #[.pointer (some ⟨gf,0,none⟩),.pointer (some ⟨ga,0,none⟩),.pointer (some ⟨gl,0,none⟩),.pointer (some ⟨gp,0,none⟩)] w fun e w'=>e=.returned (.tuple #[])/\Below B w w'/\∃ v',PS w' bm gp ga gf gl base s r a f v' (l++Tk.lay s f a):=by
 have hca:=h.ca;have hcf:=h.cf;have d1:decide ((f:Int)<(a:Int))=false:=by simp;omega
 have d1':decide (f<a)=false:=by simp;omega
 have H:Hid (PS w bm gp ga gf gl base s r a f v l):=h;clear h;go_enter Tryz.func155,Tryz.ntmps155
 go_wp2_with fail
 go_end0
 refine ⟨rfl,bR _ _,v,?_⟩;unfold Tk.lay;rw [if_neg hf,List.append_nil];exact H.out
theorem Zqs {w:World} {B bm gp ga gf gl base:Nat} {s:ByteArray} {r a f:Nat} {v:Value} {l:List Tk.T} (O:Ord B bm gp ga gf gl base) (h:PS w bm gp ga gf gl base s r a f v l) (hf:f<a) (ha:a<=s.size) (hs:s.size<=2000) (hl:l.length<=2000) :
 Calls Tryz.prog 155 #[.pointer (some ⟨gf,0,none⟩),.pointer (some ⟨ga,0,none⟩),.pointer (some ⟨gl,0,none⟩),.pointer (some ⟨gp,0,none⟩)] w fun e w'=>e=.returned (.tuple #[])/\Below B w w'/\∃ v',PS w' bm gp ga gf gl base s r a f v' (l++Tk.lay s f a):=by
 obtain ⟨i0,hi,hz0,hz1,hz2⟩:=info_parts ZcG;have hca:=h.ca;have hcf:=h.cf;have hcl:=h.cl;have hcp:=h.past.c0;have d1:decide ((f:Int)<(a:Int))=true:=by simp;omega
 have d1':decide (f<a)=true:=by simp;omega
 have hsl:=Zee s (f:Int) (a:Int) f a rfl rfl (by omega) ha;have hbs:=h.bs;obtain ⟨o1,o2,o3,o4,o5,o6⟩:=O
 have O:Hid (Ord B bm gp ga gf gl base):=⟨o1,o2,o3,o4,o5,o6⟩
 have H:Hid (PS w bm gp ga gf gl base s r a f v l):=h;have hlay:Tk.lay s f a=[⟨s.extract f a,0,0⟩]:=by unfold Tk.lay;rw [if_pos hf]
 have HB:Hid (Tk.lay s f a=[⟨s.extract f a,0,0⟩]):=hlay;clear h hlay;have nfl:gf ≠ gl:=by omega
 have nal:ga ≠ gl:=by omega
 have npl:gp ≠ gl:=by omega
 have nlf:gl ≠ gf:=by omega
 have nla:gl ≠ ga:=by omega
 have nlp:gl ≠ gp:=by omega
 have xs:(s.extract f a).size<=281474976710656:=Nm.ZcM (by omega);go_enter Tryz.func155,Tryz.ntmps155
 go_wp2_with fail
 have HL:Hid (∀ (w1:World) (g cp:Nat) (w2:World) (T:TypeId),Below w.heap.size w w1->PS w1 bm gp ga gf gl base s r a f v l->(w1.alloc (.cells #[.string (s.extract f a),.int .i64 0,.int .i64 0] T)).grownBy w2 v.ownBlock →
  w2.ownsRow base 165 3 (.slice (some ⟨g,0,none⟩) (l.length+1) cp) (l.length+1) (tcs l++[.string (s.extract f a),.int .i64 0,.int .i64 0])->(v.ownBlock=some g\/g=(w1.alloc (.cells #[.string (s.extract f a),.int .i64 0,.int .i64 0] T)).heap.size) →
  Hid (Below B w (w2.setCell ⟨gl,0,none⟩ (.slice (some ⟨g,0,none⟩) (l.length+1) cp))/\PS (w2.setCell ⟨gl,0,none⟩ (.slice (some ⟨g,0,none⟩) (l.length+1) cp)) bm gp ga gf gl base s r a f (.slice (some ⟨g,0,none⟩) (l.length+1) cp) (l++[⟨s.extract f a,0,0⟩]))/\w2.cell? ⟨gl,0,none⟩=some v/\w2.frozen? ⟨gl,0,none⟩=false):=by
  intro w1 g cp w2 T hb hp hg hown hat;have hg1:=(World.grownBy_alloc w1 _ _).trans hg;obtain ⟨q1,q2,q3⟩:=hp.laid (t:=⟨s.extract f a,0,0⟩) O.out hown hg1 (hat.imp id (fun e=>by rw [e];simp));refine ⟨⟨?_,q1⟩,q2,q3⟩;have h1:Below B w w1:=hb.mono (by omega);have h2:=h1.grown hg1 (by have:=hp.bs;omega) (fun k hk=>by have:=(hp.own.lt k hk).1;omega);exact h2.setCell (by show B<=gl;omega) _
 go_region_law (first | (refine zsL _ rfl _ _ 131 rfl base 165 i0 (.agg #[.string ⟨#[]⟩,.int .i64 0,.int .i64 0]) 3 32 U131 hi hz0 hz1 hz2 rfl (by decide) v _ _ rfl (H1.out.own.alloc _) ⟨w1.heap.size,0,none⟩ 1 1 [.string (s.extract f a),.int .i64 0,.int .i64 0] rfl rfl (ZgB _ _ _ _ _) (one3 _ _ _ rfl rfl rfl) (by decide) (ZaK (by omega)) (by omega) (by simp;omega) _ rfl ?_;intro g cp w2 hown2 hgrow2 hat2 hlt2;obtain ⟨HP,k1,k2⟩:=HL.out w1 g cp w2 _ hb H1.out hgrow2 hown2 hat2;clear hgrow2 hown2 hat2 hlt2) | (go_simp;go_at_call 69;refine (ZP _ _ xs).mono ?_;rintro e w1 ⟨rfl,hb⟩;replace hb:Below w.heap.size w w1:=(by exact Below.trans (bR _ _).drew hb);have H1:Hid (PS w1 bm gp ga gf gl base s r a f v l):=H.out.below O.out hb;have hcl1:=H1.out.cl;have hcl2:∀ o,(w1.alloc o).cell? ⟨gl,0,none⟩=some v:=fun o=>(cA _ _ _ (cL w1 _ hcl1)).trans hcl1;have hbs1:=H1.out.bs))
 all_goals
  go_wp2_with fail
  go_end0
  exact ⟨rfl,HP.out.1,_,by rw [HB.out];exact HP.out.2⟩
end Go.Proofs.YtbjbjbpgmojcbabGreat
