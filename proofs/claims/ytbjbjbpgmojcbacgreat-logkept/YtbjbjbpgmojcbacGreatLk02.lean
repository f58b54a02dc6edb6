/- A part of the proof: what it leans on. -/
import Derived.Deep.RegionHeld3
import Derived.Deep.RegionWith
import Derived.Laws.IdiomStrings
import Derived.Lib.BufferRead
import Derived.BigQuiet
import Derived.Deep.QuietTactic
import Derived.Deep.WholeRow
import Derived.Deep.MidRow
import Derived.Test.YtbjbjbpgmojcbacGreatLk01
set_option maxHeartbeats 2000000
namespace Go.Proofs.YtbjbjbpgmojcbacGreat
open Go.RowKit
theorem Zca:(Tryz.prog.info? 5).map (fun i=>(i.zero,i.size,i.bytes))=some (some (.int .u8 0),1,1):=by kernel_rfl
def bcs (l:List UInt8):List Value:=l.map fun b=>.int .u8 (b.toNat:Int)
theorem ZbO (a b:List UInt8):bcs (a++b)=bcs a++bcs b:=by simp [bcs]
theorem Zab (a:List UInt8):(bcs a).length=a.length:=by simp [bcs]
theorem Zcs (l:List UInt8) (x:Int) (h0:0<=x) (h1:x<256):bcs (l++[UInt8.ofNat x.toNat])=bcs l++[.int .u8 x]:=by
 rw [ZbO]
 congr 1
 simp only [bcs,List.map_cons,List.map_nil,UInt8.toNat_ofNat']
 congr 2
 omega
theorem Zdm (x:Int):∀ u ∈ [Value.int .u8 x],u.oneCell'=true:=by intro u hu;simp at hu;subst hu;rfl
theorem ZaJ {a:Nat} (h:a<=140737488355328):a<=maxLen:=by unfold maxLen;omega
theorem ZG {B:Nat} {w:World} (o:Obj) (h:B<=w.heap.size):B<=(w.alloc o).heap.size:=by simp;omega
theorem ZbQ {w:World} {base n:Nat} {v:Value} {l:List UInt8} (h:w.ownsRow base 5 1 v n (bcs l)) :
 (convert 77 9 v).run Tryz.prog w=.ok (.string ⟨l.toArray⟩) w:=by
 have hlen:=h.1;rw [Zab,Nat.mul_one] at hlen;rcases h.2 with ⟨rfl,h0⟩ | ⟨g,cap,cur,rfl,_,hg,_,_,_,htk⟩
 ·have:l=[]:=List.eq_nil_of_length_eq_zero (by omega);subst this;exact Lib.run_convert_nil_bytes w _ _ _ _ U77 U5 U9
 ·subst hlen;rw [Nat.mul_one] at htk;exact run_convert_bytes_back w _ _ _ _ cap l U77 U5 U9
   (fun j hj=>Lib.cells_of_row hg l.length j _ (by rw [htk];simp [bcs,hj]))
theorem Zhu {B n:Nat} {a w w1:World} {v:Value} {e:TypeId} {xs:List Value} {o:Obj} (G:Below B a w) (hown:w.ownsRow B e 1 v n xs) (hB:B<=w.heap.size)
 (hg:(w.alloc o).grownBy w1 v.ownBlock):Below B a w1 :=
 (G.alloc hB o).grown hg (by simp;omega) (fun k hk=>(hown.lt k hk).1)
theorem Ztx (n:Int) (w:World) (h:n<0\/2147483647<n) :
 Calls Tryz.prog 77 #[.int .i64 n] w fun e w'=>e=.returned (.tuple #[.string ⟨#[]⟩,.int .i64 3])/\Below w.heap.size w w':=by
 by_cases h1:n<0
 ·clear h;go_enter Tryz.func77,Tryz.ntmps77
  go_wp2
  go_ret2
  exact ⟨rfl,bR _ _⟩
 ·have h2:2147483647<n:=by omega
  clear h;go_enter Tryz.func77,Tryz.ntmps77
  go_wp2
  go_ret2
  exact ⟨rfl,bR _ _⟩
theorem Zgd (n:Int) (w:World) (h0:0<=n) (h:n<=2147483647) :
 Calls Tryz.prog 77 #[.int .i64 n] w fun e w'=>e=.returned (.tuple #[.string ⟨(Nm.nb n.toNat).toArray⟩,.int .i64 0])/\Below w.heap.size w w':=by
 obtain ⟨i0,hi,hz0,hz1,hz2⟩:=info_parts Zca;have hd1:decide (n<0)=false:=by simp;omega
 have hd2:decide (2147483647<n)=false:=by simp;omega
 go_enter Tryz.func77,Tryz.ntmps77
 go_wp2
 go_loopw [0,4] (fun nv bv wr=>∃ (m:Int) (l:List UInt8),0<=m/\m<=2147483647/\nv=.int .i64 m/\Hid (Nm.nb n.toNat=l++Nm.nb m.toNat)/\wr.ownsRow w.heap.size 5 1 bv l.length (bcs l)/\Below w.heap.size w wr)
  (fun nv _ _=>(intOf nv).toNat)
 case atStart=>exact ⟨n,[],h0,h,rfl,rfl,World.ownsRow_nil _ _ _ _,bR _ _⟩
 case round =>
  obtain ⟨m,l,hm0,hm,rfl,hl,hown,G⟩:=hrel
  have hlen:l.length<=5:=by
   have h5:=Nm.ZD n.toNat (by omega);rw [hl.out,List.length_append] at h5;omega
  have hsz:=G.size;by_cases hlt:128<=m
  ·go_wp2_with (at_builtin;refine wpList_append_own _ rfl _ _ 77 rfl w.heap.size 5 i0 (.int .u8 0) 1 1 U77 hi hz0 hz1 hz2 rfl (by decide) _ _ _ rfl (hown.alloc _) ⟨wr.heap.size,0,none⟩ 1 1 [.int .u8 (m % 128+128)] rfl rfl (cell_one_new _ _ _) (Zdm _) (ZaJ (by omega)) (by omega) (ZG _ hsz) ?_;intro v' w1 hown' hgrow _)
   have G1:=Zhu G hown hsz hgrow;have e1:bcs (l++[UInt8.ofNat (m % 128+128).toNat])=bcs l++[.int .u8 (m % 128+128)]:=Zcs l _ (by omega) (by omega)
   have HL:Hid (Nm.nb n.toNat=(l++[UInt8.ofNat (m % 128+128).toNat])++Nm.nb (m / 128).toNat):=by
    show _=_
    have e2:Nm.nb m.toNat=UInt8.ofNat (m % 128+128).toNat :: Nm.nb (m / 128).toNat:=by
     rw [Nm.Zha (n:=m.toNat) (by omega),show (m % 128+128).toNat=128+m.toNat % 128 by omega,show (m / 128).toNat=m.toNat / 128 by omega]
    rw [hl.out,e2,List.append_assoc,List.singleton_append]
   have HO:w1.ownsRow w.heap.size 5 1 v' (l++[UInt8.ofNat (m % 128+128).toNat]).length (bcs (l++[UInt8.ofNat (m % 128+128).toNat])):=by
    rw [e1,List.length_append];exact hown'
   clear hown' hgrow hown e1 G hl;go_wp2
   go_roundw
   case rel=>exact ⟨m / 128,_,by omega,by omega,rfl,HL,HO,G1⟩
   case measure=>simp [intOf];omega
  ·have He:Hid (bcs (Nm.nb n.toNat)=bcs l++[.int .u8 m]):=by
    show _=_;rw [hl.out,Nm.Zdy (n:=m.toNat) (by omega)];exact Zcs l _ (by omega) (by omega)
   clear hl;go_wp2_with (at_builtin;refine wpList_append_own _ rfl _ _ 77 rfl w.heap.size 5 i0 (.int .u8 0) 1 1 U77 hi hz0 hz1 hz2 rfl (by decide) _ _ _ rfl (hown.alloc _) ⟨wr.heap.size,0,none⟩ 1 1 [.int .u8 m] rfl rfl (cell_one_new _ _ _) (Zdm _) (ZaJ (by omega)) (by omega) (ZG _ hsz) ?_;intro v' w1 hown' hgrow _;have hcv:=ZbQ (l:=Nm.nb n.toNat) (by rw [He.out];exact hown'))
   go_ret2
   exact ⟨rfl,Zhu G hown hsz hgrow⟩
theorem Zss (s:ByteArray) (w:World) (hs:s.size<=281474976710656) (h:512<s.size) :
 Calls Tryz.prog 78 #[.string s] w fun e w'=>e=.returned (.tuple #[.string ⟨#[]⟩,.int .i64 2])/\Below w.heap.size w w':=by
 have h2:(512:Int)<(s.size:Int):=by omega
 go_enter Tryz.func78,Tryz.ntmps78
 go_wp2_with fail
 go_ret2
 exact ⟨rfl,bR _ _⟩
theorem Zpy (s:ByteArray) (w:World) (h:s.size<=512) :
 Calls Tryz.prog 78 #[.string s] w fun e w'=>e=.returned (.tuple #[.string (⟨(Nm.nb s.size).toArray⟩++s),.int .i64 0])/\Below w.heap.size w w':=by
 have h2:(s.size:Int)<=512:=by omega
 have hc:=Zgd s.size w (by omega) (by omega);rw [Int.toNat_natCast] at hc;have hl:=Nm.ZD s.size (by omega);go_enter Tryz.func78,Tryz.ntmps78
 go_wp2_with fail
 refine hc.mono ?_;rintro e w' ⟨rfl,G⟩;clear hc;generalize hL:Nm.nb s.size=L at *;have HL:Hid (Nm.nb s.size=L):=hL;clear hL;go_wp2_with fail
 go_ret2
 exact ⟨by rw [HL.out];rfl,G⟩
theorem Zba (x:Int) (h0:0<=x) (h1:x<256) (W:World) (g:Nat) (hc:W.cell? ⟨g,0,none⟩=some (.int .u8 x)) :
 (convert 77 9 (.slice (some ⟨g,0,none⟩) 1 1)).run Tryz.prog W=.ok (.string ⟨#[UInt8.ofNat x.toNat]⟩) W:=by
 refine run_convert_bytes_back W _ _ _ ⟨g,0,none⟩ 1 [UInt8.ofNat x.toNat] U77 U5 U9 (fun j hj=>?_);have:j=0:=by simpa using hj
 subst this;show W.cell? ⟨g,0,none⟩=_;rw [hc];simp only [List.getElem_cons_zero,UInt8.toNat_ofNat']
 congr 2
 omega
set_option maxRecDepth 4000 in
theorem Zam (k:Nat):∀ (n:Int) (w:World),0<=n->n<=k->n<=2147483647 →
 Calls Tryz.prog 131 #[.int .i64 n] w fun e w'=>e=.returned (.string ⟨(Nm.nb n.toNat).toArray⟩)/\Below w.heap.size w w':=by
 induction k with
 | zero =>
  intro n w h0 hk _;obtain rfl:n=0:=by omega
  have hcv:=Zba 0 (by omega) (by omega);go_enter Tryz.func131,Tryz.ntmps131
  go_wp2_with fail
  go_ret
  exact ⟨rfl,(bR _ _).alloc (nl _) _⟩
 | succ k ih =>
  intro n w h0 hk hb;by_cases hn:n<128
  ·have hcv:=Zba n (by omega) (by omega);have HN:Hid (Nm.nb n.toNat=[UInt8.ofNat n.toNat]):=Nm.Zdy (by omega);clear ih;go_enter Tryz.func131,Tryz.ntmps131
   go_wp2_with fail
   go_ret
   exact ⟨by rw [HN.out];rfl,(bR _ _).alloc (nl _) _⟩
  ·have hcv:=Zba (128+n % 128) (by omega) (by omega)
   have IH:Hid (∀ (n:Int) (w:World),0<=n->n<=k->n<=2147483647 →
    Calls Tryz.prog 131 #[.int .i64 n] w fun e w'=>e=.returned (.string ⟨(Nm.nb n.toNat).toArray⟩)/\Below w.heap.size w w'):=ih
   clear ih;have hl:(Nm.nb (n / 128).toNat).length<=5:=Nm.ZD _ (by omega)
   have HN:Hid (Nm.nb n.toNat=UInt8.ofNat (128+n % 128).toNat :: Nm.nb (n / 128).toNat):=by
    show _=_;rw [Nm.Zha (n:=n.toNat) (by omega),show (128+n % 128).toNat=128+n.toNat % 128 by omega,show (n / 128).toNat=n.toNat / 128 by omega]
   have hr1:IntKind.i64.wrap (128+n % 128)=128+n % 128:=IntWalk.i64_in _ ⟨by omega,by omega⟩;have hr3:n.tmod 128=n % 128:=Int.tmod_eq_emod_of_nonneg h0;have hr4:n.tdiv 128=n / 128:=Int.tdiv_eq_ediv_of_nonneg h0;have hr5:IntKind.i64.wrap (n / 128)=n / 128:=IntWalk.i64_in _ ⟨by omega,by omega⟩;have hr2:IntKind.u8.wrap (128+n % 128)=128+n % 128:=IntWalk.u8_in _ ⟨by omega,by omega⟩;go_enter Tryz.func131,Tryz.ntmps131
   go_wp2_with fail
   go_region_with (go_at_call 131;refine (IH.out _ _ (by omega) (by omega) (by omega)).mono ?_;rintro e w1 ⟨rfl,hB⟩;have hk1:=Ztr hB)
   all_goals go_wp2
   all_goals go_ret
   all_goals refine ⟨?_,?_⟩
   all_goals first | exact congrArg (fun s=>Ending.returned (Value.string s)) ((Nm.ZiU [_] _).trans (by rw [HN.out];rfl)) | skip
   all_goals first | exact bch ((bR _ _).alloc (nl _) _).drew hB (nl _) | exact bch (bR _ _).drew hB (nl _) | exact (bch (bR _ _).drew hB (nl _)).alloc hB.size _ | skip
theorem Zev (s:ByteArray) (w:World) (hs:s.size<=281474976710656) :
 Calls Tryz.prog 102 #[.string s] w fun e w'=>e=.returned (.tuple #[.int .i64 (Nm.num s:Nat),.string (Nm.rest s),.bool (Nm.is s)])/\Below w.heap.size w w':=by
 have hs2:(s.size:Int)<=281474976710656:=by omega
 clear hs;go_enter Tryz.func102,Tryz.ntmps102
 go_wp2_with fail
 go_loop [5,6,7] (fun n p i=>∃ k:Nat,k<=s.size/\k<=5/\i=.int .i64 k/\n=.int .i64 (Nm.val (s.data.toList.take k):Nat)/\p=.int .i64 (128 ^ k:Int)/\Hid (∀ j,j<k->∀ b,s.data.toList[j]?=some b->128<=b.toNat)) (fun _ _ i=>5 - (intOf i).toNat)
 case atStart=>exact ⟨0,by omega,by omega,rfl,rfl,rfl,fun j h=>by omega⟩
 case round =>
  obtain ⟨k,hk,hk5,rfl,rfl,rfl,hall⟩:=hrel;have hvl:=Nm.Zqt (s.data.toList.take k);generalize hm:Nm.val (s.data.toList.take k)=m at *;have Hm:Hid (Nm.val (s.data.toList.take k)=m):=hm;clear hm;by_cases hlt:k<s.size/\k<5
  ·obtain ⟨h1,h2⟩:=hlt
   have hmb:(m:Int)<268435456:=by
    have h3:(s.data.toList.take k).length<=4:=by rw [List.length_take];omega
    have h4:128 ^ (s.data.toList.take k).length<=128 ^ 4:=Nat.pow_le_pow_right (by omega) h3;omega
   clear hvl
   obtain ⟨x,hx⟩:∃ x:Int,(s[k].toNat:Int)=x:=⟨_,rfl⟩
   have hx0:0<=x:=by omega
   have hx1:x<=255:=by have:=s[k].toNat_lt;omega
   generalize hp:(128:Int) ^ k=p at *
   have hp1:p<=268435456:=by
    rw [<-hp];have:k=0\/k=1\/k=2\/k=3\/k=4:=by omega
    rcases this with rfl | rfl | rfl | rfl | rfl <;> decide
   have hp0:0<p:=by rw [<-hp];exact Int.pow_pos (by omega)
   obtain ⟨y,hy⟩:∃ y:Int,p*(x % 128)=y:=⟨_,rfl⟩
   have hy0:0<=y:=by rw [<-hy];exact Int.mul_nonneg (by omega) (by omega)
   have hy1:y<=34359738368:=by
    rw [<-hy];have h9:p*(x % 128)<=268435456*128:=Int.mul_le_mul hp1 (by omega) (by omega) (by omega);omega
   have Hp:Hid ((128:Int) ^ k=p):=hp;have Hx:Hid ((s[k].toNat:Int)=x):=hx
   have Hv:Hid ((Nm.val (s.data.toList.take (k+1)):Int)=(m:Int)+y):=by
    show (Nm.val (s.data.toList.take (k+1)):Int)=(m:Int)+y;rw [Nm.ZiV s k h1,Hm.out,<-hy,<-hx,<-hp,Nat.pow_mul];simp [Int.mul_comm]
   clear hp;have hl5:decide ((k:Int)<5)=true:=by simp;omega
   have hl6:decide ((k:Int)<(s.size:Int))=true:=by simp;omega
   have hl7:decide (k<5)=true:=by simp;omega
   have hl8:decide (k<s.size)=true:=by simp;omega
   by_cases hb:128<=x
   ·have hb2:decide (x<128)=false:=by simp;omega
    go_wp2_with fail
    go_round
    case rel =>
     refine ⟨k+1,by omega,by omega,by go_num,by rw [<-Hv.out],by rw [Int.pow_succ,Hp.out],?_⟩;show ∀ j,_;intro j hj b hjb;by_cases hjk:j=k
     ·subst hjk;rw [Nm.ZL s j h1] at hjb;simp only [Option.some.injEq] at hjb;subst hjb;have:=Hx.out;omega
     ·exact hall.out j (by omega) b hjb
    case measure=>simp [intOf];omega
   ·have hb2:decide (x<128)=true:=by simp;omega
    have Hf:Hid (Nm.Zm s.data.toList=if Nm.val (s.data.toList.take (k+1))<=2147483647/\Nm.nb (Nm.val (s.data.toList.take (k+1)))=s.data.toList.take (k+1) then some (Nm.val (s.data.toList.take (k+1)),k+1) else none) :=
     Nm.Zpz s.data.toList k s[k] (by omega) (Nm.ZL s k h1) (by omega) hall.out
    have hr1:IntKind.i64.wrap ((k:Int)+1)=(k:Int)+1:=IntWalk.i64_in _ ⟨by omega,by omega⟩;by_cases hbig:2147483647<(m:Int)+y
    ·have hb3:decide (2147483647<(m:Int)+y)=true:=by simp;omega
     have h7:Nm.Zm s.data.toList=none:=by
      rw [Hf.out,if_neg];have:=Hv.out;omega
     have HF:Hid (Nm.num s=0/\Nm.rest s=⟨#[]⟩/\Nm.is s=false):=⟨(Nm.ZaI h7).1,Nm.ZbK h7⟩
     clear h7;go_wp2_with fail
     go_quiet (fail)
     go_wp2_with fail
     go_ret3
     exact ⟨by rw [HF.out.1,HF.out.2.1,HF.out.2.2];rfl,below_drewN (bR _ _) _⟩
    ·have hb3:decide (2147483647<(m:Int)+y)=false:=by simp;omega
     have hi1:(0:Int)<=(k:Int)+1:=by omega
     have hi2:(k:Int)+1<=(s.size:Int):=by omega
     have HV:Hid (Nm.val (s.data.toList.take (k+1))=((m:Int)+y).toNat):=by
      show _=_;have:=Hv.out;omega
     have hL:(s.extract 0 (k+1)).toList=s.data.toList.take (k+1):=by
      rw [Lib.toList_data,Lib.extract_data];simp
     by_cases hE:Nm.nb ((m:Int)+y).toNat=s.data.toList.take (k+1)
     ·have hq:(Nm.nb ((m:Int)+y).toNat == (s.extract 0 (k+1)).toList)=true:=by rw [hL,hE];simp
      have h7:Nm.Zm s.data.toList=some (((m:Int)+y).toNat,k+1):=by
       rw [Hf.out,HV.out,if_pos ⟨by omega,hE⟩]
      have HF:Hid ((Nm.num s:Int)=(m:Int)+y/\Nm.rest s=s.extract (k+1) s.size/\Nm.is s=true) :=
       ⟨by rw [(Nm.ZbP h7).1];omega,Nm.ZeH h7⟩
      clear h7 hE hL;go_wp2_with fail
      go_region_held3 (fun _=>True) (trivial) (first | (go_at_call 131;refine (Zam ((m:Int)+y).toNat _ _ (by omega) (by omega) (by omega)).mono ?_;rintro e w1 ⟨rfl,hB⟩))
      go_wp2_with fail
      go_quiet (fail)
      go_wp2_with fail
      go_ret3
      exact ⟨by rw [HF.out.1,HF.out.2.1,HF.out.2.2];rfl,below_drewN (bch (bR _ _).drew hB (nl _)) _⟩
     ·have hq:(Nm.nb ((m:Int)+y).toNat == (s.extract 0 (k+1)).toList)=false:=by rw [hL];simp [hE]
      have h7:Nm.Zm s.data.toList=none:=by
       rw [Hf.out,HV.out,if_neg (fun h=>hE h.2)]
      have HF:Hid (Nm.num s=0/\Nm.rest s=⟨#[]⟩/\Nm.is s=false):=⟨(Nm.ZaI h7).1,Nm.ZbK h7⟩
      clear h7 hE hL;go_wp2_with fail
      go_region_held3 (fun _=>True) (trivial) (first | (go_at_call 131;refine (Zam ((m:Int)+y).toNat _ _ (by omega) (by omega) (by omega)).mono ?_;rintro e w1 ⟨rfl,hB⟩))
      go_wp2_with fail
      go_ret3
      exact ⟨by rw [HF.out.1,HF.out.2.1,HF.out.2.2];rfl,bch (bR _ _).drew hB (nl _)⟩
  ·have h7:Nm.Zm s.data.toList=none:=by
    refine Nm.Zgq _ ?_;intro j hj b hjb;refine hall.out j ?_ b hjb
    have:j<s.size:=by
     rcases Nat.lt_or_ge j s.size with h | h
     ·exact h
     ·rw [List.getElem?_eq_none (by simpa using h)] at hjb;simp at hjb
    omega
   have HF:Hid (Nm.num s=0/\Nm.rest s=⟨#[]⟩/\Nm.is s=false):=⟨(Nm.ZaI h7).1,Nm.ZbK h7⟩
   clear h7 hvl;by_cases hks:k<s.size
   ·have hl6:decide ((k:Int)<(s.size:Int))=true:=by simp;omega
    have hl5:decide ((k:Int)<5)=false:=by simp;omega
    have hl7:decide (k<5)=false:=by simp;omega
    have hl8:decide (k<s.size)=true:=by simp;omega
    clear hlt;go_wp2_with fail
    go_ret3
    exact ⟨by rw [HF.out.1,HF.out.2.1,HF.out.2.2];rfl,bR _ _⟩
   ·have hl6:decide ((k:Int)<(s.size:Int))=false:=by simp;omega
    have hl8:decide (k<s.size)=false:=by simp;omega
    clear hlt;go_wp2_with fail
    go_ret3
    exact ⟨by rw [HF.out.1,HF.out.2.1,HF.out.2.2];rfl,bR _ _⟩
theorem ZcV (s:ByteArray) (w:World) (hs:s.size<=281474976710656) (h:Nm.Zm s.data.toList=none) :
 Calls Tryz.prog 102 #[.string s] w fun e w'=>e=.returned (.tuple #[.int .i64 0,.string ⟨#[]⟩,.bool false])/\Below w.heap.size w w':=by
 have hc:=Zev s w hs;rw [(Nm.ZaI h).1,(Nm.ZbK h).1,(Nm.ZbK h).2] at hc;exact hc
theorem ZaT (s:ByteArray) (w:World) (n k:Nat) (hs:s.size<=281474976710656) (h:Nm.Zm s.data.toList=some (n,k)) :
 Calls Tryz.prog 102 #[.string s] w fun e w'=>e=.returned (.tuple #[.int .i64 n,.string (s.extract k s.size),.bool true])/\Below w.heap.size w w':=by
 have hc:=Zev s w hs;rw [(Nm.ZbP h).1,(Nm.ZeH h).1,(Nm.ZeH h).2] at hc;exact hc
theorem Zgg (s:ByteArray) (w:World) (hs:s.size<=281474976710656) (h:Nm.Zm s.data.toList=none) :
 Calls Tryz.prog 141 #[.string s] w fun e w'=>e=.returned (.tuple #[.int .i64 0,.string ⟨#[]⟩,.int .i64 1])/\Below w.heap.size w w':=by
 have hn:=Nm.ZaI h;have hc:=ZbF s w (by unfold maxLen;omega);rw [hn.1,hn.2] at hc;clear h hn;go_enter Tryz.func141,Tryz.ntmps141
 go_wp2_with fail
 refine hc.mono ?_;rintro e w' ⟨rfl,rfl⟩;go_wp2_with fail
 go_ret3
 exact ⟨rfl,bR _ _⟩
theorem Zbt (s:ByteArray) (w:World) (n k:Nat) (hs:s.size<=281474976710656) (h:Nm.Zm s.data.toList=some (n,k)) :
 Calls Tryz.prog 141 #[.string s] w fun e w'=>e=.returned (.tuple #[.int .i64 n,.string (s.extract k s.size),.int .i64 0])/\Below w.heap.size w w':=by
 have hn:=Nm.ZbP h;have hc:=ZbF s w (by unfold maxLen;omega);rw [hn.1,hn.2] at hc;have hb:=Nm.Zaj h;have hk1:(1:Int)<=(k:Int):=by omega
 have hk2:k<=s.size:=by simpa using hb.2.2.1
 have hk0:((k:Int) == 0)=false:=by simp;omega
 clear h hn hb;go_enter Tryz.func141,Tryz.ntmps141
 go_wp2_with fail
 refine hc.mono ?_;rintro e w' ⟨rfl,rfl⟩;clear hc;go_wp2_with fail
 refine (ZM _ _ (by simp;omega)).mono ?_;rintro e w' ⟨rfl,hb⟩;go_wp2_with fail
 go_ret3
 exact ⟨rfl,hb⟩
theorem Zfk (s:ByteArray) (w:World) (hs:s.size<=281474976710656) (h:Nm.Zm s.data.toList=none) :
 Calls Tryz.prog 142 #[.string s] w fun e w'=>e=.returned (.tuple #[.string ⟨#[]⟩,.string ⟨#[]⟩,.int .i64 1])/\Below w.heap.size w w':=by
 have hn:=Nm.ZaI h;have hc:=ZbF s w (by unfold maxLen;omega);rw [hn.1,hn.2] at hc;clear h hn;go_enter Tryz.func142,Tryz.ntmps142
 go_wp2_with fail
 refine hc.mono ?_;rintro e w' ⟨rfl,rfl⟩;clear hc;go_wp2_with fail
 go_ret3
 exact ⟨rfl,bR _ _⟩
theorem Zil (s:ByteArray) (w:World) (n k:Nat) (hs:s.size<=281474976710656) (h:Nm.Zm s.data.toList=some (n,k)) (hbad:512<n\/s.size<k+n) :
 Calls Tryz.prog 142 #[.string s] w fun e w'=>e=.returned (.tuple #[.string ⟨#[]⟩,.string ⟨#[]⟩,.int .i64 1])/\Below w.heap.size w w':=by
 have hn:=Nm.ZbP h;have hc:=ZbF s w (by unfold maxLen;omega);rw [hn.1,hn.2] at hc;have hb:=Nm.Zaj h;have hn9:(n:Int)<=2147483647:=by omega
 have hk1:(1:Int)<=(k:Int):=by omega
 have hk2:k<=s.size:=by simpa using hb.2.2.1
 have hk0:((k:Int) == 0)=false:=by simp;omega
 clear h hn hb;by_cases hbig:512<n
 ·have hb2:(512:Int)<(n:Int):=by omega
  clear hbad;go_enter Tryz.func142,Tryz.ntmps142
  go_wp2_with fail
  refine hc.mono ?_;rintro e w' ⟨rfl,rfl⟩;clear hc;go_wp2_with fail
  go_ret3
  exact ⟨rfl,bR _ _⟩
 ·have hb2:(n:Int)<=512:=by omega
  have hb3:(s.size:Int) - (k:Int)<(n:Int):=by omega
  clear hbad;go_enter Tryz.func142,Tryz.ntmps142
  go_wp2_with fail
  refine hc.mono ?_;rintro e w' ⟨rfl,rfl⟩;clear hc;go_wp2_with fail
  go_ret3
  exact ⟨rfl,bR _ _⟩
theorem ZgE (s:ByteArray) (w:World) (n k:Nat) (hs:s.size<=281474976710656) (h:Nm.Zm s.data.toList=some (n,k)) (hn5:n<=512) (hfit:k+n<=s.size) :
 Calls Tryz.prog 142 #[.string s] w fun e w'=>e=.returned (.tuple #[.string (s.extract k (k+n)),.string (s.extract (k+n) s.size),.int .i64 0])/\Below w.heap.size w w':=by
 have hn:=Nm.ZbP h;have hc:=ZbF s w (by unfold maxLen;omega);rw [hn.1,hn.2] at hc;have hb:=Nm.Zaj h;have hk1:(1:Int)<=(k:Int):=by omega
 have hk2:k<=s.size:=by simpa using hb.2.2.1
 have hk0:((k:Int) == 0)=false:=by simp;omega
 have ht1:decide ((512:Int)<(n:Int))=false:=by simp;omega
 have ht2:decide ((s.size:Int) - (k:Int)<(n:Int))=false:=by simp;omega
 have hi1:(k:Int)<=(k:Int)+(n:Int):=by omega
 have hi2:(k:Int)+(n:Int)<=(s.size:Int):=by omega
 have hi3:(0:Int)<=(k:Int)+(n:Int):=by omega
 clear h hn hb;go_enter Tryz.func142,Tryz.ntmps142
 go_wp2_with fail
 refine hc.mono ?_;rintro e w' ⟨rfl,rfl⟩;clear hc;go_wp2_with fail
 have G:Below w'.heap.size w' w':=bR _ _;go_region_with (go_at_call 35;refine (ZM _ _ (Nm.Zcx hs)).mono ?_;rintro e w1 ⟨rfl,hb⟩;replace G:Below _ _ w1:=(by first | exact bch G hb (nl _) | exact bch G.drew hb (nl _));clear hb)
 all_goals go_wp2
 all_goals go_ret3
 all_goals (rw [show ((k:Int)+(n:Int)).toNat=k+n by omega];exact ⟨rfl,G⟩)
def Zaz (s:ByteArray):Nat->Nat
 | 0=>0
 | k+1=>(Zaz s k+(s.data.toList[k]?.getD 0).toNat*((k+1) % 65536)) % 65536
theorem ZjB (s:ByteArray) (k:Nat):Zaz s k<65536:=by
 cases k with
 | zero=>simp [Zaz]
 | succ k=>exact Nat.mod_lt _ (by omega)
theorem Zfd (s:ByteArray) (k:Nat) (h:k<s.size):(Zaz s (k+1):Int)=((Zaz s k:Int)+(s[k].toNat:Int)*(((k:Int)+1) % 65536)) % 65536:=by
 rw [Zaz,Nm.ZL s k h];simp
theorem Zof (s:ByteArray) (k:Nat) (h:k<s.size):(Zaz s (k+1):Int)=((Zaz s k:Int)+((k:Int) % 65536+1)*(s[k].toNat:Int)) % 65536:=by
 rw [Zfd s k h];by_cases h1:(k:Int) % 65536+1<65536
 ·rw [show ((k:Int)+1) % 65536=(k:Int) % 65536+1 by omega,Int.mul_comm]
 ·rw [show ((k:Int)+1) % 65536=0 by omega,show (k:Int) % 65536+1=65536 by omega];omega
theorem ZlF (s:ByteArray) (w:World) (hs:s.size<=281474976710656) :
 Calls Tryz.prog 58 #[.string s] w fun e w'=>e=.returned (.int .i64 (Zaz s s.size:Nat))/\w'=w:=by
 have hs2:(s.size:Int)<=281474976710656:=by omega
 clear hs;go_enter Tryz.func58,Tryz.ntmps58
 go_wp2_with fail
 go_loop [3,7] (fun n i=>∃ k:Nat,k<=s.size/\i=.int .i64 k/\n=.int .i64 (Zaz s k:Nat)) (fun _ i=>s.size - (intOf i).toNat)
 case atStart=>exact ⟨0,by omega,rfl,rfl⟩
 case round =>
  obtain ⟨k,hk,rfl,rfl⟩:=hrel;have hv:=ZjB s k;by_cases hlt:k<s.size
  ·have Hs:Hid ((Zaz s (k+1):Int)=((Zaz s k:Int)+(s[k].toNat:Int)*(((k:Int)+1) % 65536)) % 65536):=Zfd s k hlt;generalize Zaz s k=m at *;generalize hm:Zaz s (k+1)=m1 at *
   obtain ⟨x,hx⟩:∃ x:Int,(s[k].toNat:Int)=x:=⟨_,rfl⟩
   have hx0:0<=x:=by omega
   have hx1:x<=255:=by have:=s[k].toNat_lt;omega
   have Hx:Hid ((s[k].toNat:Int)=x):=hx
   obtain ⟨y,hy⟩:∃ y:Int,x*(((k:Int)+1) % 65536)=y:=⟨_,rfl⟩
   have hy0:0<=y:=by rw [<-hy];exact Int.mul_nonneg (by omega) (by omega)
   have hy1:y<=16777216:=by
    rw [<-hy];have h9:x*(((k:Int)+1) % 65536)<=255*65536:=Int.mul_le_mul hx1 (by omega) (by omega) (by omega);omega
   have HM:Hid (Zaz s (k+1)=m1):=hm;clear hm;have HY:Hid (x*(((k:Int)+1) % 65536)=y):=hy;have hmb:(m:Int)<65536:=by omega
   clear hv;go_wp2_with fail
   go_round
   case rel=>exact ⟨k+1,by omega,by go_num,by rw [HM.out,Hs.out,Hx.out,HY.out]⟩
   case measure=>simp [intOf];omega
  ·obtain rfl:k=s.size:=by omega
   go_wp2_with fail
   go_ret
   exact ⟨rfl,rfl⟩
theorem Zej (s:ByteArray) (w:World) (hs:s.size<=281474976710656) :
 Calls Tryz.prog 72 #[.string s] w fun e w'=>e=.returned (.int .i64 (Zaz s s.size:Nat))/\w'=w:=by
 have hs2:(s.size:Int)<=281474976710656:=by omega
 clear hs;go_enter Tryz.func72,Tryz.ntmps72
 go_wp2_with fail
 go_loop [3,4] (fun n i=>∃ k:Nat,k<=s.size/\i=.int .i64 k/\n=.int .i64 (Zaz s k:Nat)) (fun _ i=>s.size - (intOf i).toNat)
 case atStart=>exact ⟨0,by omega,rfl,rfl⟩
 case round =>
  obtain ⟨k,hk,rfl,rfl⟩:=hrel;have hv:=ZjB s k;by_cases hlt:k<s.size
  ·have Hs:Hid ((Zaz s (k+1):Int)=((Zaz s k:Int)+((k:Int) % 65536+1)*(s[k].toNat:Int)) % 65536):=Zof s k hlt;generalize Zaz s k=m at *;generalize hm:Zaz s (k+1)=m1 at *
   obtain ⟨x,hx⟩:∃ x:Int,(s[k].toNat:Int)=x:=⟨_,rfl⟩
   have hx0:0<=x:=by omega
   have hx1:x<=255:=by have:=s[k].toNat_lt;omega
   have Hx:Hid ((s[k].toNat:Int)=x):=hx
   obtain ⟨y,hy⟩:∃ y:Int,((k:Int) % 65536+1)*x=y:=⟨_,rfl⟩
   have hy0:0<=y:=by rw [<-hy];exact Int.mul_nonneg (by omega) (by omega)
   have hy1:y<=16777216:=by
    rw [<-hy];have h9:((k:Int) % 65536+1)*x<=65536*255:=Int.mul_le_mul (by omega) hx1 (by omega) (by omega);omega
   have HM:Hid (Zaz s (k+1)=m1):=hm;clear hm;have HY:Hid (((k:Int) % 65536+1)*x=y):=hy;have hmb:(m:Int)<65536:=by omega
   clear hv;go_wp2_with fail
   go_round
   case rel=>exact ⟨k+1,by omega,by go_num,by rw [HM.out,Hs.out,Hx.out,HY.out]⟩
   case measure=>simp [intOf];omega
  ·obtain rfl:k=s.size:=by omega
   go_wp2_with fail
   go_ret
   exact ⟨rfl,rfl⟩
def arr (f:Nat->Int):Array Value:=((List.range 16).map fun i=>Value.int .i64 (f i)).toArray
theorem Zh (f:Nat->Int):(arr f).size=16:=by simp [arr]
theorem ZbW (f:Nat->Int) (i:Nat) (h:i<16):(arr f)[i]?=some (.int .i64 (f i)):=by simp [arr,h]
theorem ZoB:(Tryz.prog.info? 127).map (·.size)=some 16:=by kernel_rfl
theorem Zb (f:Nat->Int):(Tryz.prog.info? 127).map (·.size)=some (arr f).size:=by rw [Zh];exact ZoB
theorem ZiS (f:Nat->Int) (k:Nat) (h:k<16) (w:World):(Instr.index 127 (.agg (arr f)) (.int .i64 (k:Int))).run Tryz.prog w=.ok (.int .i64 (f k)) w:=by
 have h1:=ZbW f k h;have h2:(0:Int)<=(k:Int)/\(k:Int)<((16:Nat):Int):=by omega
 generalize arr f=c at *;simp [Instr.index,run_underlying Tryz.underlying127,asIntOf,go_sem,h2,part,h1];intro h9;omega
end Go.Proofs.YtbjbjbpgmojcbacGreat
namespace Go.Proofs.YtbjbjbpgmojcbacGreat.Cd
def InR (f:Nat->Int) (hi:Int) (k:Nat):Prop:=∀ i,i<k->0<=f i/\f i<=hi
instance (f:Nat->Int) (hi:Int) (k:Nat):Decidable (InR f hi k):=inferInstanceAs (Decidable (∀ i,i<k->0<=f i/\f i<=hi))
theorem InR.succ {f:Nat->Int} {hi:Int} {k:Nat} (h:InR f hi k) (h1:0<=f k) (h2:f k<=hi):InR f hi (k+1):=fun i hlt=>by
 rcases Nat.lt_succ_iff_lt_or_eq.1 hlt with h3 | rfl
 ·exact h i h3
 ·exact ⟨h1,h2⟩
theorem Zic {f:Nat->Int} {hi:Int} {k n:Nat} (hk:k<n) (h:f k<0\/hi<f k):¬ InR f hi n:=fun h9=>by have:=h9 k hk;omega
def wt (x:Int):Int:=if 0<x then 2 ^ (15 - x).toNat else 0
def sm (f:Nat->Int):Nat->Int
 | 0=>0
 | k+1=>sm f k+wt (f k)
theorem ZbL {a b:Nat} (h:a<=b):(2:Int) ^ a<=2 ^ b:=by
 have:=Nat.pow_le_pow_right (show 0<2 by omega) h
 exact_mod_cast this
theorem pow_pos (a:Nat):(1:Int)<=2 ^ a:=by
 have:0<2 ^ a:=Nat.pow_pos (by omega)
 exact_mod_cast this
theorem ZeR {x:Int} (h:0<x):wt x=2 ^ (15 - x).toNat:=by rw [wt,if_pos h]
theorem Zdg {x:Int} (h:¬ 0<x):wt x=0:=by rw [wt,if_neg h]
theorem wt_b {x:Int} (h0:0<=x) (h1:x<=15):0<=wt x/\wt x<=16384:=by
 unfold wt;split
 ·have h2:(2:Int) ^ (15 - x).toNat<=2 ^ 14:=ZbL (by omega);have h3:=pow_pos (15 - x).toNat;omega
 ·omega
theorem sm_b {f:Nat->Int}:∀ k,InR f 15 k->0<=sm f k/\sm f k<=16384*k:=by
 intro k
 induction k with
 | zero=>intro _;simp [sm]
 | succ k ih =>
  intro h;have h1:=ih (fun i hi=>h i (by omega));have h2:=h k (by omega);have h3:=wt_b h2.1 h2.2;rw [sm];omega
def used (f:Nat->Int):Nat->Bool
 | 0=>false
 | k+1=>used f k || decide (0<f k)
theorem ZrC {f:Nat->Int}:∀ k,InR f 15 k->(sm f k=0 ↔ used f k=false):=by
 intro k
 induction k with
 | zero=>intro _;simp [sm,used]
 | succ k ih =>
  intro h;have h0:InR f 15 k:=fun i hi=>h i (by omega)
  have h1:=ih h0;have h2:=h k (by omega);have h3:=sm_b k h0;rw [sm,used];by_cases hp:0<f k
  ·rw [ZeR hp];have:=pow_pos (15 - f k).toNat;simp [hp];omega
  ·rw [Zdg hp];simp [hp,h1]
def chk (f:Nat->Int):Int:=if InR f 15 16 then (if sm f 16=0\/32768<sm f 16 then 1 else 0) else 3
theorem ZlM {f:Nat->Int} {k:Nat} (hk:k<16) (h:f k<0\/15<f k):chk f=3:=by rw [chk,if_neg (Zic hk h)]
theorem Zka {f:Nat->Int} (h:InR f 15 16) (h1:sm f 16=0\/32768<sm f 16):chk f=1:=by rw [chk,if_pos h,if_pos h1]
theorem ZjQ {f:Nat->Int} (h:InR f 15 16) (h1:¬ (sm f 16=0\/32768<sm f 16)):chk f=0:=by rw [chk,if_pos h,if_neg h1]
theorem Ze {f:Nat->Int} (h:chk f=0):InR f 15 16/\sm f 16 ≠ 0/\sm f 16<=32768:=by
 unfold chk at h;by_cases h1:InR f 15 16
 ·rw [if_pos h1] at h;by_cases h2:sm f 16=0\/32768<sm f 16
  ·rw [if_pos h2] at h;omega
  ·exact ⟨h1,by omega,by omega⟩
 ·rw [if_neg h1] at h;omega
def cst (f c:Nat->Int):Nat->Option Int
 | 0=>some 0
 | k+1=>match cst f c k with
  | none=>none
  | some n=>if 0<c k/\f k=0 then none else some (n+c k*f k)
def cost (f c:Nat->Int):Int × Int :=
 if chk f ≠ 0 then (0,chk f) else if ¬ InR c 2048 16 then (0,3) else match cst f c 16 with | none=>(0,5) | some n=>(n,0)
end Go.Proofs.YtbjbjbpgmojcbacGreat.Cd
namespace Go.Proofs.YtbjbjbpgmojcbacGreat.Tk
structure T where
 lit:ByteArray
 far:Int
 len:Int
def copy (far:Nat):Nat->List UInt8->List UInt8
 | 0,s=>s
 | n+1,s=>copy far n (s++[s.getD (s.length - far) 0])
theorem Zea (far:Nat):∀ (n:Nat) (s:List UInt8),(copy far n s).length=s.length+n:=by
 intro n
 induction n with
 | zero=>intro s;rfl
 | succ n ih=>intro s;rw [copy,ih];simp;omega
theorem Zek (far:Nat):∀ (n:Nat) (s:List UInt8),copy far (n+1) s=copy far n s++[(copy far n s).getD ((copy far n s).length - far) 0]:=by
 intro n
 induction n with
 | zero=>intro s;rfl
 | succ n ih=>intro s;rw [copy,ih];rfl
def err (d:Nat) (s:List UInt8) (p:Bool) (t:T):Int :=
 if t.lit.size ≠ 0 then
  if t.far ≠ 0\/t.len ≠ 0\/p=true then 1
  else if 512<(s.length:Int) - d+t.lit.size then 2 else 0
 else if ¬ (3<=t.len/\t.len<=64/\1<=t.far/\t.far<=s.length) then 1
 else if 512<(s.length:Int) - d+t.len then 2 else 0
def make (s:List UInt8) (t:T):List UInt8 :=
 if t.lit.size ≠ 0 then s++t.lit.data.toList else copy t.far.toNat t.len.toNat s
def run (d:Nat):List UInt8->Bool->List T->Int × List UInt8
 | s,_,[]=>(0,s)
 | s,p,t :: l=>if err d s p t ≠ 0 then (err d s p t,[]) else run d (make s t) (decide (t.lit.size ≠ 0)) l
theorem Zaf {d:Nat} {s:List UInt8} {p:Bool} {t:T} {l:List T} (h:err d s p t ≠ 0):run d s p (t :: l)=(err d s p t,[]):=by simp [run,h]
theorem Zai {d:Nat} {s:List UInt8} {p:Bool} {t:T} {l:List T} (h:err d s p t=0):run d s p (t :: l)=run d (make s t) (decide (t.lit.size ≠ 0)) l:=by simp [run,h]
theorem ZbZ {d:Nat} {s:List UInt8} {p:Bool} {t:T} (h:err d s p t=0):(make s t).length=s.length+t.lit.size+t.len.toNat/\0<=t.len/\(t.lit.size=0->1<=t.far/\t.far<=s.length/\3<=t.len/\t.len<=64)/\(t.lit.size ≠ 0->t.far=0/\t.len=0)/\((s.length:Int) - d+t.lit.size+t.len<=512):=by
 unfold err at h;unfold make;by_cases h0:t.lit.size ≠ 0
 ·rw [if_pos h0] at h;rw [if_pos h0];by_cases h1:t.far ≠ 0\/t.len ≠ 0\/p=true
  ·rw [if_pos h1] at h;omega
  ·rw [if_neg h1] at h;by_cases h2:512<(s.length:Int) - d+t.lit.size
   ·rw [if_pos h2] at h;omega
   ·have hf:t.far=0:=by
     by_cases e:t.far=0
     ·exact e
     ·exact absurd (Or.inl e) h1
    have hl:t.len=0:=by
     by_cases e:t.len=0
     ·exact e
     ·exact absurd (Or.inr (Or.inl e)) h1
    refine ⟨?_,by omega,fun e=>absurd e h0,fun _=>⟨hf,hl⟩,by omega⟩;simp [hl]
 ·rw [if_neg h0] at h;rw [if_neg h0];by_cases h1:3<=t.len/\t.len<=64/\1<=t.far/\t.far<=s.length
  ·rw [if_neg (by simpa using h1)] at h;by_cases h2:512<(s.length:Int) - d+t.len
   ·rw [if_pos h2] at h;omega
   ·refine ⟨?_,by omega,fun _=>by omega,fun e=>absurd e h0,by omega⟩;rw [Zea];omega
  ·rw [if_pos h1] at h;omega
end Go.Proofs.YtbjbjbpgmojcbacGreat.Tk
