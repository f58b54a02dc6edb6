/- A part of the proof: what it leans on. -/
import Derived.Test.YtbjbjbpgmojcbacGreatLk16
set_option maxRecDepth 4000
set_option maxHeartbeats 2000000
namespace Go.Proofs.YtbjbjbpgmojcbacGreat
open Go.RowKit Go.Maps Go.ChangeShapes
theorem ZiR {w:World} {B bm gp ga gf gl base:Nat} {s:ByteArray} {r a f:Nat} {v:Value} {l:List Tk.T} (O:Ord B bm gp ga gf gl base) (h:PS w bm gp ga gf gl base s r a f v l) (ha:a<=s.size) (hs:s.size<=2000) (hl:l.length<=2000) :
 Calls Tryz.prog 115 #[.pointer (some ⟨gf,0,none⟩),.pointer (some ⟨ga,0,none⟩),.pointer (some ⟨gl,0,none⟩),.pointer (some ⟨gp,0,none⟩)] w fun e w'=>e=.returned (.tuple #[])/\Below B w w'/\∃ v',PS w' bm gp ga gf gl base s r a f v' (l++Tk.lay s f a):=by
 by_cases hf:f<a
 ·exact ZpE O h hf ha hs hl
 ·exact Zse h hf
theorem Zky (dict text:ByteArray) (w:World) (hd:256<dict.size\/512<text.size) :
 Calls Tryz.prog 88 #[.string dict,.string text] w fun e w'=>e=.returned (.tuple #[.slice none 0 0,.int .i64 2])/\Below w.heap.size w w':=by
 by_cases h1:256<dict.size
 ·have d1:decide ((256:Int)<(dict.size:Int))=true:=by simp;omega
  have d1':(256:Int)<(dict.size:Int):=by omega
  go_enter Tryz.func88,Tryz.ntmps88
  go_wp2_with fail
  go_ret2
  exact ⟨rfl,bR _ _⟩
 ·have d1:decide ((256:Int)<(dict.size:Int))=false:=by simp;omega
  have d1':(dict.size:Int)<=256:=by omega
  have d2:decide ((512:Int)<(text.size:Int))=true:=by simp;omega
  have d2':(512:Int)<(text.size:Int):=by omega
  go_enter Tryz.func88,Tryz.ntmps88
  go_wp2_with fail
  go_ret2
  exact ⟨rfl,bR _ _⟩
theorem ZlP (w:World) (base:Nat) (hb:w.heap.size<base) (No:Nat->Prop) (s:ByteArray):∃ D:DataW Value,IsMap D/\(w.alloc (.map #[] 0)).ownsGroups Tryz.prog 9 base 3 .i64 w.heap.size 0 D/\(w.alloc (.map #[] 0)).Shuns w.heap.size No/\ZkL D s 0:=by
 refine ⟨.map [],isMap_empty,⟨#[],0,(MapKept.heap_alloc w _).1,⟨by simp,MapKept.stamped_empty 0,by simp⟩,nl _,rfl,hb,by simp,by simp⟩,World.Shuns_made w No,?_⟩;intro k;rfl
theorem ZoA (w:World) (s:ByteArray) (d:Nat) (T1 T2 T3 T4:TypeId) :
 PS (((((w.alloc (.map #[] 0)).alloc (.cells #[.string s,.map (some w.heap.size),.int .i64 0] T1)).alloc (.cells #[.int .i64 (d:Nat)] T2)).alloc (.cells #[.int .i64 (d:Nat)] T3)).alloc (.cells #[.slice none 0 0] T4)) w.heap.size (w.heap.size+1) (w.heap.size+1+1) (w.heap.size+1+1+1) (w.heap.size+1+1+1+1) (w.heap.size+1+1+1+1+1) s 0 d d (.slice none 0 0) []:=by
 have hs:∀ (u:World) (o:Obj),(u.alloc o).heap.size=u.heap.size+1:=fun u o=>by simp
 obtain ⟨W1,hW1⟩:∃ W1,W1=w.alloc (.map #[] 0):=⟨_,rfl⟩
 have s1:W1.heap.size=w.heap.size+1:=by rw [hW1,hs]
 have hmap:=ZlP w (w.heap.size+1+1+1+1+1) (by omega) (fun g=>(Value.slice none 0 0).ownBlock=some g) s;rw [<-hW1] at hmap |-
 clear hW1
 obtain ⟨W2,hW2⟩:∃ W2,W2=W1.alloc (.cells #[.string s,.map (some w.heap.size),.int .i64 0] T1):=⟨_,rfl⟩
 have s2:W2.heap.size=w.heap.size+1+1:=by rw [hW2,hs,s1]
 have b2:Below W1.heap.size W1 W2:=by rw [hW2];exact (bR _ _).alloc (nl _) _
 have c20:W2.cell? ⟨w.heap.size+1,0,none⟩=some (.string s):=by rw [hW2,<-s1,World.cell?_alloc_mark];rfl
 have c21:W2.cell? ⟨w.heap.size+1,1,none⟩=some (.map (some w.heap.size)):=by rw [hW2,<-s1,World.cell?_alloc_mark];rfl
 have c22:W2.cell? ⟨w.heap.size+1,2,none⟩=some (.int .i64 ((0:Nat):Int)):=by rw [hW2,<-s1,World.cell?_alloc_mark];rfl
 have f22:W2.frozen? ⟨w.heap.size+1,2,none⟩=false:=by rw [hW2,<-s1,World.frozen?_alloc_mark];simp
 rw [<-hW2];clear hW2
 obtain ⟨W3,hW3⟩:∃ W3,W3=W2.alloc (.cells #[.int .i64 (d:Nat)] T2):=⟨_,rfl⟩
 have s3:W3.heap.size=w.heap.size+1+1+1:=by rw [hW3,hs,s2]
 have b3:Below W2.heap.size W2 W3:=by rw [hW3];exact (bR _ _).alloc (nl _) _
 have c3:W3.cell? ⟨w.heap.size+1+1,0,none⟩=some (.int .i64 (d:Nat)):=by rw [hW3,<-s2,World.cell?_alloc_mark];rfl
 have f3:W3.frozen? ⟨w.heap.size+1+1,0,none⟩=false:=by rw [hW3,<-s2,World.frozen?_alloc_mark];simp
 rw [<-hW3];clear hW3
 obtain ⟨W4,hW4⟩:∃ W4,W4=W3.alloc (.cells #[.int .i64 (d:Nat)] T3):=⟨_,rfl⟩
 have s4:W4.heap.size=w.heap.size+1+1+1+1:=by rw [hW4,hs,s3]
 have b4:Below W3.heap.size W3 W4:=by rw [hW4];exact (bR _ _).alloc (nl _) _
 have c4:W4.cell? ⟨w.heap.size+1+1+1,0,none⟩=some (.int .i64 (d:Nat)):=by rw [hW4,<-s3,World.cell?_alloc_mark];rfl
 have f4:W4.frozen? ⟨w.heap.size+1+1+1,0,none⟩=false:=by rw [hW4,<-s3,World.frozen?_alloc_mark];simp
 rw [<-hW4];clear hW4
 obtain ⟨W5,hW5⟩:∃ W5,W5=W4.alloc (.cells #[.slice none 0 0] T4):=⟨_,rfl⟩
 have s5:W5.heap.size=w.heap.size+1+1+1+1+1:=by rw [hW5,hs,s4]
 have b5:Below W4.heap.size W4 W5:=by rw [hW5];exact (bR _ _).alloc (nl _) _
 have c5:W5.cell? ⟨w.heap.size+1+1+1+1,0,none⟩=some (.slice none 0 0):=by rw [hW5,<-s4,World.cell?_alloc_mark];rfl
 have f5:W5.frozen? ⟨w.heap.size+1+1+1+1,0,none⟩=false:=by rw [hW5,<-s4,World.frozen?_alloc_mark];simp
 rw [<-hW5];clear hW5;have b45:=b4.trans (b5.mono (by omega));have b35:=b3.trans (b45.mono (by omega));have b25:=b2.trans (b35.mono (by omega));obtain ⟨D,hm,ho,hsh,hr⟩:=hmap
 have hg:W1.grownBy W5 none:=⟨b25.os,b25.tape,b25.output,b25.size,fun k hk _=>b25.block k hk⟩
 refine ⟨⟨?_,?_,?_,?_,by omega,by omega,by omega,D,hm,ho.kept hg (by simp) (fun es clock _ x _=>by cases x.val.ownBlock <;> simp),hsh.kept hg (by omega) (by simp),hr⟩,?_,?_,?_,?_,c5,f5,World.ownsRow_nil _ _ _ _⟩
 ·exact (b35.cell (by show w.heap.size+1<_;omega)).trans c20
 ·exact (b35.cell (by show w.heap.size+1<_;omega)).trans c21
 ·exact (b35.cell (by show w.heap.size+1<_;omega)).trans c22
 ·exact (b35.frozen (by show w.heap.size+1<_;omega)).trans f22
 ·exact (b45.cell (by show w.heap.size+1+1<_;omega)).trans c3
 ·exact (b45.frozen (by show w.heap.size+1+1<_;omega)).trans f3
 ·exact (b5.cell (by show w.heap.size+1+1+1<_;omega)).trans c4
 ·exact (b5.frozen (by show w.heap.size+1+1+1<_;omega)).trans f4
theorem five {w:World} {bm gp ga gf gl base:Nat} {s:ByteArray} {r a f n:Nat} {v:Value} {l:List Tk.T} (h:PS (w.setCell ⟨ga,0,none⟩ (.int .i64 ((a+n:Nat):Int))) bm gp ga gf gl base s r (a+n) f v l) :
 (w.setCell ⟨ga,0,none⟩ (.int .i64 ((a:Int)+(n:Int)))).cell? ⟨ga,0,none⟩=some (.int .i64 ((a:Int)+(n:Int)))/\(w.setCell ⟨ga,0,none⟩ (.int .i64 ((a:Int)+(n:Int)))).cell? ⟨gf,0,none⟩=some (.int .i64 (f:Nat))/\(w.setCell ⟨ga,0,none⟩ (.int .i64 ((a:Int)+(n:Int)))).frozen? ⟨gf,0,none⟩=false :=
 ⟨h.ca,h.cf,h.ff⟩
theorem Ztb (w:World) (o1 o2 o3 o4 o5:Obj):Below w.heap.size w (((((w.alloc o1).alloc o2).alloc o3).alloc o4).alloc o5) :=
 (((((bR w.heap.size w).alloc (nl _) o1).alloc (by simp) o2).alloc (by simp;omega) o3).alloc (by simp;omega) o4).alloc (by simp;omega) o5
theorem ZpQ (dict text:ByteArray) (w:World) (hd:dict.size<=256) (ht:text.size<=512) :
 Calls Tryz.prog 88 #[.string dict,.string text] w fun e w'=>Below w.heap.size w w'/\∃ ad cap,e=.returned (.tuple #[.slice ad (Tk.P (dict++text) dict.size dict.size).length cap,.int .i64 0])/\SlAt w' ad (Tk.P (dict++text) dict.size dict.size):=by
 have d1:decide ((256:Int)<(dict.size:Int))=false:=by simp;omega
 have d1':(dict.size:Int)<=256:=by omega
 have d2:decide ((512:Int)<(text.size:Int))=false:=by simp;omega
 have d2':(text.size:Int)<=512:=by omega
 have hmm:=@run_makeMap Tryz.prog;obtain ⟨i0,hi,hz0,hz1,hz2⟩:=info_parts ZcK;go_enter Tryz.func88,Tryz.ntmps88
 go_wp2_with fail
 have hst:=ZoA w (dict++text) dict.size 143 3 3 118;have hB5:=Ztb w (.map #[] 0) (.cells #[.string (dict++text),.map (some w.heap.size),.int .i64 0] 143) (.cells #[.int .i64 (dict.size:Nat)] 3) (.cells #[.int .i64 (dict.size:Nat)] 3) (.cells #[.slice none 0 0] 118)
 have O:Hid (Ord w.heap.size w.heap.size (w.heap.size+1) (w.heap.size+1+1) (w.heap.size+1+1+1) (w.heap.size+1+1+1+1) (w.heap.size+1+1+1+1+1)):=⟨by omega,by omega,by omega,by omega,by omega,by omega⟩
 have hsz:(dict++text).size=dict.size+text.size:=Nm.apps _ _;generalize hs0:dict++text=s at *;have hs1:s.size<=2000:=by omega
 have hds:dict.size<=s.size:=by omega
 have HS0:Hid (dict++text=s):=hs0;clear hsz hs0 hmm d1 d1' d2 d2';generalize hd0:dict.size=d at *;have HD0:Hid (dict.size=d):=hd0;clear hd0;generalize w.heap.size+1+1+1+1+1=base at *;generalize w.heap.size+1+1+1+1=gl at *;generalize w.heap.size+1+1+1=gf at *;generalize w.heap.size+1+1=ga at *;generalize w.heap.size+1=gp at *;go_loopw [11,12] (fun _ _ wr=>∃ (r a f:Nat) (v:Value) (l:List Tk.T),PS wr w.heap.size gp ga gf gl base s r a f v l/\r<=a/\f<=a/\a<=s.size/\l.length<=f/\Hid (l++Tk.P s a f=Tk.P s d d)/\Below w.heap.size w wr) (fun _ _ wr=>s.size - ZdN wr ⟨ga,0,none⟩)
 case atStart=>exact ⟨0,d,d,.slice none 0 0,[],hst,by omega,by omega,hds,by simp,rfl,hB5⟩
 case round =>
  clear hst hB5;obtain ⟨r,a,f,v,l,h,hra,hfa,has,hlf,hP,G⟩:=hrel;have H:Hid (PS wr w.heap.size gp ga gf gl base s r a f v l):=h;have hca:=h.ca;have hc0:=h.past.c0;have hnoH:Hid (∀ g,v.ownBlock=some g->g<wr.heap.size):=fun g hg=>(h.own.lt g hg).2
  have hws:=G.size;clear h;by_cases hend:a<s.size
  ·have d3:decide ((a:Int)<(s.size:Int))=true:=by simp;omega
   have d3':decide (a<s.size)=true:=by simp;omega
   rcases Tk.Zsm s.data.toList a with ⟨hb1,hb2⟩ | ⟨hb1,hb2⟩
   ·have HN:Hid (l++Tk.P s (a+1) f=Tk.P s d d):=by
     show _=_;rw [<-hP.out,Tk.Zsx hend hb1]
    have HZ:Hid (Tk.lng s.data.toList a=(0,0)):=hb2;clear hb1 hb2 hP;go_wp2_with (first | (go_at_call 116;go_must (refine (ZgC a H.out.past hnoH.out hra has hs1).mono ?_;rintro e w1 ⟨rfl,hk1,r1,hr1,hr2,hr3,hp1⟩;have H1:Hid (PS w1 w.heap.size gp ga gf gl base s r1 a f v l):=H.out.reach O.out hk1 hp1;have hca1:=H1.out.ca;have HK1:Hid (Below w.heap.size wr w1):=hk1.below (by have:=O.out.p;omega) (nl _) (by have:=O.out.p;have:=O.out.a;have:=O.out.f;have:=O.out.l;have:=O.out.s;omega) hws;have HR3:Hid (a+3<=s.size->r1=a):=hr3;clear hk1 hp1 hr3)) | (go_at_call 117;go_must (refine (ZdP a H1.out.past HR3.out has hs1).mono ?_;rintro e w2 ⟨rfl,k2,hw2⟩;rw [HZ.out];have HB2:Hid (Below w1.heap.size w1 w2):=(by show Below _ _ _;rw [hw2];exact below_drewN (bR _ _) _);have H2:Hid (PS w2 w.heap.size gp ga gf gl base s r1 a f v l):=H1.out.below O.out HB2.out;have hca2:=H2.out.ca;have hfa2:=H2.out.fa;clear hw2)))
    have HBW:Below w.heap.size w w2:=(G.trans HK1.out).trans (HB2.out.mono (nt hws HK1.out.size));have hga:w.heap.size<=ga:=by have:=O.out.p;have:=O.out.a;omega
    go_roundw
    case rel=>exact ⟨r1,a+1,f,v,l,H2.out.setAt O.out (a+1),by omega,by omega,by omega,hlf,HN,HBW.setCell hga _⟩
    case measure =>
     have hx:(w2.setCell ⟨ga,0,none⟩ (.int .i64 ((a:Int)+1))).cell? ⟨ga,0,none⟩=some (.int .i64 ((a+1:Nat):Int)):=(H2.out.setAt O.out (a+1)).ca;unfold ZdN;rw [hx,hca];simp [intOf];omega
   ·obtain ⟨far,n,hfn⟩:∃ far n,Tk.bst s.data.toList a=(far,n):=⟨_,_,rfl⟩
    have hbo:=Tk.ZiY s.data.toList a;rw [hfn] at hbo hb1 hb2;simp only at hbo hb1;have hl:s.data.toList.length=s.size:=by simp
    have hmost:Tk.most s.data.toList a<=s.size - a/\Tk.most s.data.toList a<=64:=by unfold Tk.most;omega
    have hn64:n<=64:=by omega
    have han:a+n<=s.size:=by omega
    have hfar:far<=a:=by
     rcases hbo.2 with e | e
     ·have:=congrArg Prod.fst e;simp at this;omega
     ·omega
    have HN:Hid ((l++Tk.lay s f a)++[⟨⟨#[]⟩,(far:Nat),(n:Nat)⟩]++Tk.P s (a+n) (a+n)=Tk.P s d d):=by
     show _=_;rw [<-hP.out,Tk.Znj hend (by rw [hfn];simp;omega),hfn];simp
    have hlay:(l++Tk.lay s f a).length<=a:=by
     rw [List.length_append];unfold Tk.lay;split <;> simp <;> omega
    have HZ:Hid (Tk.lng s.data.toList a=(far,n)):=hb2;have d4:decide ((n:Int)<3)=false:=by simp;omega
    have d4':decide (n<3)=false:=by simp;omega
    have hwr:IntKind.i64.wrap ((a:Int)+(n:Int))=(a:Int)+(n:Int):=IntWalk.i64_in _ ⟨by omega,by omega⟩;clear hb2 hP hfn hbo hmost hl
    obtain ⟨l3,hl3⟩:∃ l3,l++Tk.lay s f a=l3:=⟨_,rfl⟩
    rw [hl3] at HN hlay;have HL3:Hid (l++Tk.lay s f a=l3):=hl3;clear hl3;go_wp2_with (first | (go_at_call 116;go_must (refine (ZgC a H.out.past hnoH.out hra has hs1).mono ?_;rintro e w1 ⟨rfl,hk1,r1,hr1,hr2,hr3,hp1⟩;have H1:Hid (PS w1 w.heap.size gp ga gf gl base s r1 a f v l):=H.out.reach O.out hk1 hp1;have hca1:=H1.out.ca;have HK1:Hid (Below w.heap.size wr w1):=hk1.below (by have:=O.out.p;omega) (nl _) (by have:=O.out.p;have:=O.out.a;have:=O.out.f;have:=O.out.l;have:=O.out.s;omega) hws;have HR3:Hid (a+3<=s.size->r1=a):=hr3;clear hk1 hp1 hr3)) | (go_at_call 117;go_must (refine (ZdP a H1.out.past HR3.out has hs1).mono ?_;rintro e w2 ⟨rfl,k2,hw2⟩;rw [HZ.out];have HB2:Hid (Below w1.heap.size w1 w2):=(by show Below _ _ _;rw [hw2];exact below_drewN (bR _ _) _);have H2:Hid (PS w2 w.heap.size gp ga gf gl base s r1 a f v l):=H1.out.below O.out HB2.out;have hca2:=H2.out.ca;have hfa2:=H2.out.fa;clear hw2)) | (go_at_call 115;go_must (refine (ZiR O.out H2.out has hs1 (by omega)).mono ?_;rintro e w3 ⟨rfl,hb3,v3,h3⟩;rw [HL3.out] at h3;have H3:Hid (PS w3 w.heap.size gp ga gf gl base s r1 a f v3 l3):=h3;have hcl3:=h3.cl;have HB3:Hid (Below w.heap.size w2 w3):=hb3;have hbs3:=h3.bs;have hl3:∀ o,(w3.alloc o).cell? ⟨gl,0,none⟩=some v3:=fun o=>(cA _ _ _ (cL w3 _ hcl3)).trans hcl3;clear h3 hb3)) | (at_builtin;go_must (refine zwL _ rfl _ _ 118 rfl base 145 i0 (.agg #[.string ⟨#[]⟩,.int .i64 0,.int .i64 0]) 3 32 U118 hi hz0 hz1 hz2 rfl (by decide) v3 _ _ rfl (H3.out.own.alloc _) ⟨w3.heap.size,0,none⟩ 1 1 [.string ⟨#[]⟩,.int .i64 (far:Nat),.int .i64 (n:Nat)] rfl rfl (Zhr _ _ _ _ _) (one3 _ _ _ rfl rfl rfl) (by decide) (ZaJ (by omega)) (by omega) (by simp;omega) _ rfl ?_;intro g cp w4 hown4 hgrow4 hat4 hlt4;obtain ⟨p4,c4,f4⟩:=H3.out.laid (t:=⟨⟨#[]⟩,(far:Nat),(n:Nat)⟩) O.out hown4 ((World.grownBy_alloc w3 _ _).trans hgrow4) (hat4.imp id (fun e=>by rw [e];simp));have H4:Hid _:=p4;have hca4:=p4.ca;have hfa4:=p4.fa;have p5:=p4.setAt O.out (a+n);have H5:Hid _:=p5;obtain ⟨hca5,hcf5,hff5⟩:=five p5;clear p4 p5)))
    have HBW:Below w.heap.size w w2:=(G.trans HK1.out).trans (HB2.out.mono (nt hws HK1.out.size))
    have HB4:Below w.heap.size w w4:=((HBW.trans HB3.out).grown ((World.grownBy_alloc w3 _ _).trans hgrow4) (nt HBW.size HB3.out.size) (fun k hk=>by have:=(H3.out.own.lt k hk).1;have:=O.out.p;have:=O.out.a;have:=O.out.f;have:=O.out.l;have:=O.out.s;omega))
    have hga:w.heap.size<=ga:=by have:=O.out.p;have:=O.out.a;omega
    have hgf:w.heap.size<=gf:=by have:=O.out.f;omega
    have hgl:w.heap.size<=gl:=by have:=O.out.l;omega
    have H6:=H5.out.setFrom O.out (a+n);rw [Int.natCast_add] at H6;go_roundw
    case rel=>exact ⟨r1,a+n,a+n,_,l3++[⟨⟨#[]⟩,(far:Nat),(n:Nat)⟩],H6,by omega,by omega,by omega,by simp;omega,HN,((HB4.setCell hgl _).setCell hga _).setCell hgf _⟩
    case measure =>
     have hx:=H6.ca;rw [Int.natCast_add] at hx;unfold ZdN;rw [hx,hca];simp [intOf];omega
  ·have d3:decide ((a:Int)<(s.size:Int))=false:=by simp;omega
   have d3':decide (a<s.size)=false:=by simp;omega
   have HE:Hid (l++Tk.lay s f a=Tk.P s d d):=by
    show _=_;rw [<-hP.out,Tk.ZsW (by omega)]
   clear hP;go_wp2_with (first | (go_at_call 115;go_must (refine (ZiR O.out H.out has hs1 (by omega)).mono ?_;rintro e w3 ⟨rfl,hb3,v3,h3⟩;have H3:Hid (PS w3 w.heap.size gp ga gf gl base s r a f v3 (l++Tk.lay s f a)):=h3;have hcl3:=h3.cl;have HB3:Hid (Below w.heap.size wr w3):=hb3;clear h3 hb3)))
   go_ret2
   obtain ⟨ad,cap,hv,hsl⟩:=ZbJ H3.out.own;refine ⟨G.trans HB3.out,ad,cap,?_,?_⟩
   ·rw [HS0.out,HD0.out,<-HE.out,<-hv];rfl
   ·rw [HS0.out,HD0.out,<-HE.out];exact hsl
namespace Bk
def tk (dict text:ByteArray):ByteArray:=⟨(tbs (Tk.P (dict++text) dict.size dict.size)).toArray⟩
def bks (text s:ByteArray):List ByteArray:=if s.size=0 then [(⟨#[0]⟩:ByteArray)++text,(⟨#[1]⟩:ByteArray)++s] else [(⟨#[0]⟩:ByteArray)++text,(⟨#[1]⟩:ByteArray)++s,(⟨#[2]⟩:ByteArray)++enc s]
def pak (dict text:ByteArray):ByteArray × Int:=if 256<dict.size\/512<text.size then (⟨#[]⟩,2) else (mnK (bks text (tk dict text)) (bks text (tk dict text)).length,0)
theorem ZhE {dict text:ByteArray} (hd:dict.size<=256) (ht:text.size<=512):(tk dict text).size<=1024:=by
 rcases Nat.lt_or_ge 1024 (tk dict text).size with h | h
 ·have h1:=ZeT hd h;have h2:=ZeX (Zbm dict text hd ht).1;rw [tk] at h1;rw [h1] at h2
  cases h2
 ·exact h
theorem Zbp (s:ByteArray) (h:s.size<=1024):(enc s).size<=10000:=by
 have z1:(⟨(jn (Cd.bld (hv s)).1).toArray⟩:ByteArray).size=8:=by
  show (jn _).toArray.size=_;simp [jn,ZcY]
 have z2:(⟨(Nm.nb s.size).toArray⟩:ByteArray).size<=5:=by
  have:=Nm.ZD s.size (by omega);show (Nm.nb s.size).toArray.size<=_;simpa using this
 have z3:(Cd.wrt (Cd.bld (hv s)).1 s).1.size<=5000:=by
  have z:(⟨#[]⟩:ByteArray).size<=5000:=by decide
  unfold Cd.wrt;split
  ·exact z
  ·rename_i hc
   split
   ·exact z
   ·cases hq:Cd.wrK (Cd.bld (hv s)).1 s s.size with
    | none=>exact z
    | some bs =>
     simp only;rw [Cd.ZfA];have:=Cd.ZdT (Cd.Ze (Decidable.not_not.1 hc)).1 _ bs hq;omega
 unfold enc;rw [ByteArray.size_append,ByteArray.size_append];omega
end Bk
theorem Zqm:(Tryz.prog.info? 9).map (fun i=>(i.zero,i.size,i.bytes))=some (some (.string ⟨#[]⟩),1,16):=by kernel_rfl
theorem ZoX (w:World) (a b:ByteArray):(w.alloc (.cells #[.string a,.string b] 9)).ownsRow w.heap.size 9 1 (.slice (some ⟨w.heap.size,0,none⟩) 2 2) 2 [.string a,.string b] :=
 ⟨rfl,.inr ⟨w.heap.size,2,#[.string a,.string b],rfl,nl _,heap_alloc_last w _,nl _,by decide,rfl,rfl⟩⟩
theorem Zsq (w:World) (a b:ByteArray):Bk.TxAt (w.alloc (.cells #[.string a,.string b] 9)) w.heap.size [a,b]:=by
 refine ⟨by simp,fun i hi=>?_⟩;rw [cell_of_row _ w.heap.size i _ _ _ (heap_alloc_last w _)]
 match i,hi with
 | 0,_=>rfl
 | 1,_=>rfl
theorem Zsy {w:World} {base:Nat} {v:Value} {a b c:ByteArray} (h:w.ownsRow base 9 1 v 3 [.string a,.string b,.string c]):∃ g cap,v=.slice (some ⟨g,0,none⟩) 3 cap/\Bk.TxAt w g [a,b,c]:=by
 rcases h.2 with ⟨_,h0⟩ | ⟨g,cap,cur,rfl,hb,hg,hnc,hcm,hcs,htk⟩
 ·omega
 ·refine ⟨g,cap,rfl,(aG.1 hg).1,fun i hi=>?_⟩;rw [cell_of_row w g i _ _ _ hg];have h1:cur.toList[i]?=(cur.toList.take (3*1))[i]?:=by rw [List.getElem?_take,if_pos (by simpa using hi)]
  rw [<-Array.getElem?_toList,h1,htk]
  match i,hi with
  | 0,_=>rfl
  | 1,_=>rfl
  | 2,_=>rfl
theorem ZrS (x:ByteArray):∀ u ∈ [Value.string x],u.oneCell'=true:=by intro u hu;simp at hu;subst hu;rfl
theorem Zpn (dict text:ByteArray) (w:World) (hd0:dict.size<=140737488355328) (ht0:text.size<=140737488355328) :
 Calls Tryz.prog 56 #[.string dict,.string text] w fun e w'=>e=.returned (.tuple #[.string (Bk.pak dict text).1,.int .i64 (Bk.pak dict text).2])/\Below w.heap.size w w':=by
 by_cases hm:256<dict.size\/512<text.size
 ·have e:Bk.pak dict text=(⟨#[]⟩,2):=if_pos hm;rw [e];have c1:=fun w=>Zky dict text w hm
  clear e hm;go_enter Tryz.func56,Tryz.ntmps56
  go_wp2_with fail
  refine (c1 _).mono ?_;rintro e w1 ⟨rfl,G⟩;go_wp2_with fail
  go_ret2
  exact ⟨rfl,G⟩
 ·have hd:dict.size<=256:=by omega
  have ht:text.size<=512:=by omega
  have e:Bk.pak dict text=(Bk.mnK (Bk.bks text (Bk.tk dict text)) (Bk.bks text (Bk.tk dict text)).length,0):=if_neg hm;rw [e];have c1:=fun w=>ZpQ dict text w hd ht
  have q1:=Zbm dict text hd ht;have q2:=Zdd (Zbo q1.1);have z1:=Bk.ZhE hd ht;have c2:=fun ad cap w hl=>ZmK dict ad cap (Tk.P (dict++text) dict.size dict.size) w hl q2
  have hX:ZfE dict (Tk.P (dict++text) dict.size dict.size)=Bk.tk dict text:=by unfold ZfE;rw [if_neg (by rw [q1.1];decide)];rfl
  rw [q1.1,hX] at c2;generalize Bk.tk dict text=s at *;generalize Tk.P (dict++text) dict.size dict.size=L at *;have c3:=fun w=>Zlb s w z1
  have z2:=Bk.Zbp s z1;clear e hm q1 q2 hX;by_cases hs:s.size=0
  ·have hb:Bk.bks text s=[(⟨#[0]⟩:ByteArray)++text,(⟨#[1]⟩:ByteArray)++s]:=if_pos hs;rw [hb]
   have hs0:s=⟨#[]⟩:=by
    apply ByteArray.ext;exact Array.eq_empty_of_size_eq_zero hs
   have y1:((⟨#[0]⟩:ByteArray)++text).size<=1000000:=by rw [ByteArray.size_append];have:(⟨#[0]⟩:ByteArray).size=1:=rfl;omega
   have y2:((⟨#[1]⟩:ByteArray)++s).size<=1000000:=by rw [ByteArray.size_append];have:(⟨#[1]⟩:ByteArray).size=1:=rfl;omega
   have hB:∀ i,(Bk.xa [(⟨#[0]⟩:ByteArray)++text,(⟨#[1]⟩:ByteArray)++s] i).size<=1000000:=fun i=>by
    match i with
    | 0=>exact y1
    | 1=>exact y2
    | i+2=>exact (by decide:(⟨#[]⟩:ByteArray).size<=1000000)
   have c4:=fun g cap w hx=>Zeg [(⟨#[0]⟩:ByteArray)++text,(⟨#[1]⟩:ByteArray)++s] g cap w hx (by simp) (by simp) hB
   generalize Bk.mnK [(⟨#[0]⟩:ByteArray)++text,(⟨#[1]⟩:ByteArray)++s] [(⟨#[0]⟩:ByteArray)++text,(⟨#[1]⟩:ByteArray)++s].length=R at *;have hem:s.toList.isEmpty=true:=by rw [hs0,ByteArray.toList_eq];rfl
   have Hs0:Hid (s=⟨#[]⟩):=hs0;clear hb hB hs0 hs c3 z2;go_enter Tryz.func56,Tryz.ntmps56
   go_wp2_with fail
   refine (c1 _).mono ?_;rintro e w1 ⟨G1,pd,pc,rfl,Z1⟩;go_wp2_with fail
   refine (c2 pd pc _ Z1).mono ?_;rintro e w2 ⟨rfl,G2⟩;have B2:=bch G1 G2 (nl _);clear c1 c2 G1 G2 Z1;go_wp2_with fail
   have O2:=Zsq w2 ((⟨#[0]⟩:ByteArray)++text) ((⟨#[1]⟩:ByteArray)++s);have B3:Below w.heap.size w (w2.alloc (.cells #[.string ((⟨#[0]⟩:ByteArray)++text),.string ((⟨#[1]⟩:ByteArray)++s)] 9)):=B2.alloc B2.size _;refine (c4 _ _ _ O2).mono ?_;rintro e w5 ⟨rfl,G5⟩;have B6:=bch B3 G5 (nl _);go_wp2_with fail
   go_ret2
   exact ⟨rfl,B6⟩
  ·have hb:Bk.bks text s=[(⟨#[0]⟩:ByteArray)++text,(⟨#[1]⟩:ByteArray)++s,(⟨#[2]⟩:ByteArray)++Bk.enc s]:=if_neg hs;rw [hb]
   have hne:s.toList.isEmpty=false:=by
    rw [ByteArray.toList_eq,Bool.eq_false_iff];intro e;rw [List.isEmpty_iff] at e;apply hs;have:=congrArg List.length e;rw [Cd.Zf] at this;simpa using this
   have y1:((⟨#[0]⟩:ByteArray)++text).size<=1000000:=by rw [ByteArray.size_append];have:(⟨#[0]⟩:ByteArray).size=1:=rfl;omega
   have y2:((⟨#[1]⟩:ByteArray)++s).size<=1000000:=by rw [ByteArray.size_append];have:(⟨#[1]⟩:ByteArray).size=1:=rfl;omega
   have y3:((⟨#[2]⟩:ByteArray)++Bk.enc s).size<=1000000:=by rw [ByteArray.size_append];have:(⟨#[2]⟩:ByteArray).size=1:=rfl;omega
   have hB:∀ i,(Bk.xa [(⟨#[0]⟩:ByteArray)++text,(⟨#[1]⟩:ByteArray)++s,(⟨#[2]⟩:ByteArray)++Bk.enc s] i).size<=1000000:=fun i=>by
    match i with
    | 0=>exact y1
    | 1=>exact y2
    | 2=>exact y3
    | i+3=>exact (by decide:(⟨#[]⟩:ByteArray).size<=1000000)
   have c4:=fun g cap w hx=>Zeg [(⟨#[0]⟩:ByteArray)++text,(⟨#[1]⟩:ByteArray)++s,(⟨#[2]⟩:ByteArray)++Bk.enc s] g cap w hx (by simp) (by simp) hB
   generalize Bk.mnK [(⟨#[0]⟩:ByteArray)++text,(⟨#[1]⟩:ByteArray)++s,(⟨#[2]⟩:ByteArray)++Bk.enc s] [(⟨#[0]⟩:ByteArray)++text,(⟨#[1]⟩:ByteArray)++s,(⟨#[2]⟩:ByteArray)++Bk.enc s].length=R at *;generalize Bk.enc s=en at *;clear hb hB;go_enter Tryz.func56,Tryz.ntmps56
   go_wp2_with fail
   refine (c1 _).mono ?_;rintro e w1 ⟨G1,pd,pc,rfl,Z1⟩;go_wp2_with fail
   refine (c2 pd pc _ Z1).mono ?_;rintro e w2 ⟨rfl,G2⟩;have B2:=bch G1 G2 (nl _);clear c1 c2 G1 G2 Z1;go_wp2_with fail
   have O2:=ZoX w2 ((⟨#[0]⟩:ByteArray)++text) ((⟨#[1]⟩:ByteArray)++s);have B3:Below w.heap.size w (w2.alloc (.cells #[.string ((⟨#[0]⟩:ByteArray)++text),.string ((⟨#[1]⟩:ByteArray)++s)] 9)):=B2.alloc B2.size _
   have Hg2:Hid (w.heap.size<=w2.heap.size/\w2.heap.size<(w2.alloc (.cells #[.string ((⟨#[0]⟩:ByteArray)++text),.string ((⟨#[1]⟩:ByteArray)++s)] 9)).heap.size):=⟨B2.size,by simp⟩
   generalize w2.alloc (.cells #[.string ((⟨#[0]⟩:ByteArray)++text),.string ((⟨#[1]⟩:ByteArray)++s)] 9)=wa at *;generalize w2.heap.size=g2 at *
   obtain ⟨t0,et0⟩:∃ t,(⟨#[0]⟩:ByteArray)++text=t:=⟨_,rfl⟩
   obtain ⟨t1,et1⟩:∃ t,(⟨#[1]⟩:ByteArray)++s=t:=⟨_,rfl⟩
   rw [et0,et1] at c4 O2;rw [et0] at y1;rw [et1] at y2;rw [et0,et1];clear et0 et1;refine (c3 _).mono ?_;rintro e w3 ⟨rfl,G3⟩;have O3:=Zj O2 G3;have B4:=bch B3 G3 (nl _);have hg3:g2<=w3.heap.size:=by have:=Hg2.out;have:=G3.size;omega
   clear O2 B3 G3 c3 B2;obtain ⟨i0,hi,hz0,hz1,hz2⟩:=info_parts Zqm;go_wp2_with (at_builtin;go_must (refine wpList_append_own _ rfl _ _ 30 rfl g2 9 i0 (.string ⟨#[]⟩) 1 16 U30 hi hz0 hz1 hz2 rfl (by decide) _ _ _ rfl (O3.alloc _) ⟨w3.heap.size,0,none⟩ 1 1 [.string ((⟨#[2]⟩:ByteArray)++en)] rfl rfl (cell_one_new _ _ _) (ZrS _) (ZaJ (by omega)) (by omega) (by simp;omega) ?_;intro v' w4 hown' hgrow _))
   obtain ⟨g,cap,hv,hx⟩:=Zsy hown';subst hv;have B5:Below w.heap.size w w4:=(B4.alloc B4.size _).grown hgrow (by have:=B4.size;simp;omega) (fun k hk=>by have h9:=(O3.lt k hk).1;have h8:=Hg2.out.1;omega);refine (c4 g cap _ hx).mono ?_;rintro e w5 ⟨rfl,G5⟩;have B6:=bch B5 G5 (nl _);go_wp2_with fail
   go_ret2
   exact ⟨rfl,B6⟩
namespace Ar
structure F where
 name:ByteArray
 dict:Int
 size:Int
 sum:Int
 blk:ByteArray
structure A where
 dicts:List ByteArray
 files:List F
def fz:F:=⟨⟨#[]⟩,0,0,0,⟨#[]⟩⟩
def fa (fs:List F) (i:Nat):F:=fs.getD i fz
def az:A:=⟨[],[]⟩
def okc (c:Nat):Bool:=decide (97<=c/\c<=122) || decide (48<=c/\c<=57) || decide (c=46)
def nmK (b:ByteArray):Nat->Bool
 | 0=>true
 | k+1=>nmK b k && okc (Cd.at8 b k)
def isNm (b:ByteArray):Bool:=decide (1<=b.size/\b.size<=12) && nmK b b.size
def dct (ds:List ByteArray) (n:Int):ByteArray:=if n=0 then ⟨#[]⟩ else Tr.xa ds (n - 1).toNat
def has (ds:List ByteArray) (n:Int):Bool:=decide (0<=n/\n<=(ds.length:Int))
def up (ds:List ByteArray) (f:F):ByteArray × Int:=Bk.unp (dct ds f.dict) f.blk
def sm (t:ByteArray):Int:=(Zaz t t.size:Nat)
def okf (ds:List ByteArray) (f:F):Bool:=has ds f.dict && decide ((up ds f).2=0/\((up ds f).1.size:Int)=f.size/\sm (up ds f).1=f.sum)
def tx (ds:List ByteArray) (f:F):ByteArray:=(up ds f).1
def lgK (xs:List ByteArray):Nat->Option Nat
 | 0=>none
 | k+1=>match lgK xs k with
  | some i=>some i
  | none=>if 256<(Tr.xa xs k).size then some k else none
def many (a:A):Bool:=decide (4<a.dicts.length\/12<a.files.length) || (lgK a.dicts a.dicts.length).isSome
def okAt (a:A) (k:Nat):Bool:=isNm (fa a.files k).name && (decide (k=0) || Tr.bl (fa a.files (k - 1)).name (fa a.files k).name) && okf a.dicts (fa a.files k)
def gdK (a:A):Nat->Bool
 | 0=>true
 | k+1=>gdK a k && okAt a k
def chk (a:A):Int:=if many a=true then 2 else if gdK a a.files.length=true then 0 else 1
def txs (a:A):List ByteArray:=a.files.map (tx a.dicts)
def pos (fs:List F) (name:ByteArray):Nat:=(fs.takeWhile fun f=>Tr.bl f.name name).length
def ZK (fs:List F) (name:ByteArray):Bool:=decide (pos fs name<fs.length/\(fa fs (pos fs name)).name=name)
def pk (ds:List ByteArray) (name text:ByteArray) (dict:Int):F:=⟨name,dict,text.size,sm text,(Bk.pak (dct ds dict) text).1⟩
def putF (fs:List F) (f:F):List F:=fs.take (pos fs f.name)++f :: fs.drop (pos fs f.name+if ZK fs f.name=true then 1 else 0)
def putE (a:A) (name text:ByteArray) (dict:Int):Int :=
 if chk a ≠ 0 then chk a else if isNm name=false then 4 else if has a.dicts dict=false then 3
 else if 512<text.size\/(ZK a.files name=false/\a.files.length=12) then 2 else 0
def putA (a:A) (name text:ByteArray) (dict:Int):A:=if putE a name text dict=0 then ⟨a.dicts,putF a.files (pk a.dicts name text dict)⟩ else az
def getE (a:A) (name:ByteArray):Int:=if chk a ≠ 0 then chk a else if ZK a.files name=true then 0 else 5
def Zbw (a:A) (name:ByteArray):A:=if getE a name=0 then ⟨a.dicts,a.files.take (pos a.files name)++a.files.drop (pos a.files name+1)⟩ else az
def retE (a:A) (size:Int):Int:=if chk a ≠ 0 then chk a else if 0<=size/\size<=256 then (if a.dicts.length=4 then 2 else 0) else 3
def retD (a:A) (size:Int):List ByteArray:=a.dicts++[Tr.trn (txs a) size.toNat]
def retA (a:A) (size:Int):A:=if retE a size=0 then ⟨retD a size,a.files.map fun f=>pk (retD a size) f.name (tx a.dicts f) (a.dicts.length+1:Nat)⟩ else az
def used (a:A) (n:Int):Bool:=a.files.any fun f=>decide (f.dict=n)
def rkK (a:A):Nat->Nat
 | 0=>0
 | k+1=>rkK a k+(if used a ((k+1:Nat):Int)=true then 1 else 0)
def cpD (a:A):Nat->List ByteArray
 | 0=>[]
 | k+1=>if used a ((k+1:Nat):Int)=true then cpD a k++[Tr.xa a.dicts k] else cpD a k
def cpF (a:A) (k:Nat) (f:F):F:=if 1<=f.dict/\f.dict<=(k:Int) then { f with dict:=(rkK a f.dict.toNat:Nat) } else f
def cmpA (a:A):A:=if chk a=0 then ⟨cpD a a.dicts.length,a.files.map (cpF a a.dicts.length)⟩ else az
def szD (ds:List ByteArray):Nat->Nat
 | 0=>0
 | k+1=>szD ds k+(Tr.xa ds k).size
def szF (fs:List F):Nat->Nat
 | 0=>0
 | k+1=>szF fs k+(fa fs k).blk.size
def sz (a:A):Nat:=szD a.dicts a.dicts.length+szF a.files a.files.length
end Ar
namespace Im
theorem ZtT {α β:Type} {p:ByteArray->Option (α × ByteArray)} {enc:α->B} {ok:α->Prop} (hp:Rd p enc ok) (f:α->β) (g:β->α) (okb:β->Prop) (h1:∀ a,ok a->okb (f a)/\g (f a)=a) (h2:∀ b,okb b->ok (g b)/\f (g b)=b) :
 Rd (fun s=>match p s with | none=>none | some (a,r)=>some (f a,r)) (fun b=>enc (g b)) okb:=by
 intro s b r;constructor
 ·intro h;simp only at h
  cases ha:p s with
  | none=>rw [ha] at h;cases h
  | some y =>
   obtain ⟨a,r0⟩:=y;rw [ha] at h;simp only [Option.some.injEq,Prod.mk.injEq] at h;obtain ⟨rfl,rfl⟩:=h;obtain ⟨a1,a2⟩:=(hp s a r0).1 ha;simp only [(h1 a a1).2];exact ⟨(h1 a a1).1,a2⟩
 ·rintro ⟨hb,h⟩;simp only;rw [(hp s (g b) r).2 ⟨(h2 b hb).1,h⟩];simp only [(h2 b hb).2]
def In (n:Int):Prop:=0<=n/\n<=2147483647
theorem Zcu (l:B):∃ q:ByteArray,q.data.toList=l:=⟨⟨l.toArray⟩,by simp⟩
structure Act where
 kind:Int
 n:Int
 name:ByteArray
 text:ByteArray
def okX (x:Act):Prop:=In x.kind/\In x.n/\x.name.size<=512/\x.text.size<=512
def Zce (x:Act):B:=Nm.nb x.kind.toNat++(Nm.nb x.n.toNat++(tb x.name++tb x.text))
def actB (x:Act):B:=Nm.nb (Zce x).length++Zce x
def rIn4 (s:ByteArray):Option (Act × ByteArray) :=
 match rNum s with
 | none=>none
 | some (k,r1)=>match rNum r1 with
  | none=>none
  | some (n,r2)=>match rCnt 512 r2 with
   | none=>none
   | some (nm,r3)=>match rCnt 512 r3 with
    | none=>none
    | some (t,r4)=>some (⟨(k:Nat),(n:Nat),nm,t⟩,r4)
theorem Zmh:Rd rIn4 Zce okX:=by
 have h:=ZtT (Zny ZbD (Zny ZbD (Zny (ZbC 512) (ZbC 512) Prod.fst Prod.snd Prod.mk (fun _ _=>rfl) (fun _ _=>rfl) (fun _=>rfl)) Prod.fst Prod.snd Prod.mk (fun _ _=>rfl) (fun _ _=>rfl) (fun _=>rfl)) Prod.fst Prod.snd Prod.mk (fun _ _=>rfl) (fun _ _=>rfl) (fun _=>rfl))
  (fun x:Nat × Nat × ByteArray × ByteArray=>(⟨(x.1:Nat),(x.2.1:Nat),x.2.2.1,x.2.2.2⟩:Act)) (fun x=>(x.kind.toNat,x.n.toNat,x.name,x.text)) okX
  (fun a ha=>by
   obtain ⟨h1,h2,⟨_,h3⟩,_,h4⟩:=ha
   exact ⟨⟨⟨by simp,by simp only;omega⟩,⟨by simp,by simp only;omega⟩,h3,h4⟩,by simp⟩)
  (fun f hf=>by
   obtain ⟨⟨h2,h2'⟩,⟨h3,h3'⟩,h4,h5⟩:=hf;refine ⟨⟨by simp only;omega,by simp only;omega,⟨by simp only;omega,h4⟩,by simp only;omega,h5⟩,?_⟩;obtain ⟨k,n,a,b⟩:=f;simp only at h2 h3 |-
   rw [Int.toNat_of_nonneg h2,Int.toNat_of_nonneg h3])
 intro s f r;refine Iff.trans ?_ (h s f r);unfold rIn4
 cases h1:rNum s with
 | none=>simp only [h1]
 | some x1 =>
  simp only [h1]
  cases h2:rNum x1.2 with
  | none=>simp only
  | some x2 =>
   simp only
   cases h3:rCnt 512 x2.2 with
   | none=>simp only
   | some x3 =>
    simp only
    cases h4:rCnt 512 x3.2 with
    | none=>simp only
    | some x4=>simp only
def rIn (s:ByteArray):Option Act:=match rIn4 s with
 | none=>none
 | some (x,r)=>if r.size=0 then some x else none
theorem Zqw (s:ByteArray) (x:Act):rIn s=some x ↔ okX x/\s.data.toList=Zce x:=by
 unfold rIn;constructor
 ·intro h
  cases h1:rIn4 s with
  | none=>rw [h1] at h;cases h
  | some y =>
   obtain ⟨x',r⟩:=y;rw [h1] at h;simp only at h;by_cases h5:r.size=0
   ·rw [if_pos h5] at h;simp only [Option.some.injEq] at h;subst h;obtain ⟨g1,g2⟩:=(Zmh s x' r).1 h1;have g5:r.data.toList=[]:=lZ.1 (by rw [<-Zq];exact h5);exact ⟨g1,by rw [g2,g5,List.append_nil]⟩
   ·rw [if_neg h5] at h;cases h
 ·rintro ⟨h1,h2⟩;rw [(Zmh s x ⟨#[]⟩).2 ⟨h1,by rw [h2];simp⟩];exact if_pos rfl
theorem ZdU {x:Act} (h:okX x):(Zce x).length<=1044:=by
 obtain ⟨⟨h1,h1'⟩,⟨h2,h2'⟩,h3,h4⟩:=h;unfold Zce tb;simp only [List.length_append];have a1:=Nm.ZD x.kind.toNat (by omega);have a2:=Nm.ZD x.n.toNat (by omega);have a3:=Nm.ZD x.name.size (by omega);have a4:=Nm.ZD x.text.size (by omega);rw [<-Zq,<-Zq];omega
def rAct (s:ByteArray):Option (Act × ByteArray):=match rCnt 2147483647 s with
 | none=>none
 | some (t,r)=>match rIn t with
  | none=>none
  | some x=>some (x,r)
theorem Zck:Rd rAct actB okX:=by
 intro s x r;unfold rAct;constructor
 ·intro h
  cases h1:rCnt 2147483647 s with
  | none=>rw [h1] at h;cases h
  | some y =>
   obtain ⟨t,r0⟩:=y;rw [h1] at h;simp only at h
   cases h2:rIn t with
   | none=>rw [h2] at h;cases h
   | some x' =>
    rw [h2] at h;simp only [Option.some.injEq,Prod.mk.injEq] at h;obtain ⟨rfl,rfl⟩:=h;obtain ⟨g1,g2⟩:=(Zqw t x').1 h2;obtain ⟨_,g3⟩:=(ZbC 2147483647 s t r0).1 h1;refine ⟨g1,?_⟩;rw [g3];unfold tb actB;rw [Zq,g2]
 ·rintro ⟨h1,h2⟩;obtain ⟨t,ht⟩:=Zcu (Zce x);have hl:=ZdU h1;have hz:t.size<=1044:=by rw [Zq,ht];exact hl
  rw [(ZbC 2147483647 s t r).2 ⟨⟨by omega,by omega⟩,by rw [h2];unfold tb actB;rw [Zq,ht]⟩];simp only;rw [(Zqw t x).2 ⟨h1,ht⟩]
def rep:Nat->ByteArray->List Act × ByteArray
 | 0,s=>([],s)
 | k+1,s=>match rAct s with
  | none=>([],s)
  | some (x,r)=>(x :: (rep k r).1,(rep k r).2)
end Im
namespace Im
abbrev E:=ByteArray × Bool
instance (n:Int):Decidable (In n):=inferInstanceAs (Decidable (0<=n/\n<=2147483647))
def actE (x:Act):Int:=if In x.kind/\In x.n then (if x.name.size<=512/\x.text.size<=512 then 0 else 2) else 3
theorem Zgc {x:Act}:actE x=0 ↔ okX x:=by
 unfold actE okX;constructor
 ·intro h;by_cases h1:In x.kind/\In x.n
  ·rw [if_pos h1] at h;by_cases h2:x.name.size<=512/\x.text.size<=512
   ·exact ⟨h1.1,h1.2,h2.1,h2.2⟩
   ·rw [if_neg h2] at h;cases h
  ·rw [if_neg h1] at h;cases h
 ·rintro ⟨h1,h2,h3,h4⟩;rw [if_pos ⟨h1,h2⟩,if_pos ⟨h3,h4⟩]
end Im
namespace Im
theorem Ztq {s:ByteArray} (h:s.data.toList=[]):s=⟨#[]⟩:=Nm.ZF (by rw [h])
theorem ZiT (x:Act):actB x ≠ []:=by
 unfold actB;intro h;exact Nm.ZpJ _ (List.append_eq_nil_iff.1 h).1
theorem ZkT {p:ByteArray} {x:Act} {q:B} (hx:okX x) (h:actB x=p.data.toList++q) (hq:q ≠ []):rAct p=none:=by
 cases hp:rAct p with
 | none=>rfl
 | some y =>
  obtain ⟨y,r⟩:=y;obtain ⟨h1,h2⟩:=(Zck p y r).1 hp;obtain ⟨s,hs⟩:=Zcu (actB x);obtain ⟨r2,hr2⟩:=Zcu (r.data.toList++q);have e1:=(Zck s x ⟨#[]⟩).2 ⟨hx,by rw [hs];simp⟩;have e2:=(Zck s y r2).2 ⟨h1,by rw [hs,h,h2,hr2,List.append_assoc]⟩;rw [e1] at e2;simp only [Option.some.injEq,Prod.mk.injEq] at e2;rw [<-e2.2] at hr2;have:r.data.toList++q=[]:=by rw [<-hr2]
  exact absurd (List.append_eq_nil_iff.1 this).2 hq
theorem ZfM:∀ {l:List Act} {m:Nat} {s r:ByteArray},(∀ x ∈ l,okX x)->l.length<=m->(l.length=m\/rAct r=none)->s.data.toList=flat actB l++r.data.toList->rep m s=(l,r)
 | [],m,s,r,_,_,h3,h4=>by
  have e:s=r:=Nm.ZF (by rw [h4];simp [flat]);subst e
  cases m with
  | zero=>rfl
  | succ m =>
   rcases h3 with h3 | h3
   ·simp at h3
   ·rw [rep,h3]
 | x :: l,m,s,r,h1,h2,h3,h4=>by
  cases m with
  | zero=>simp at h2
  | succ m =>
   obtain ⟨q,hq⟩:=Zcu (flat actB l++r.data.toList);have e:flat actB (x :: l)=actB x++flat actB l:=by simp [flat]
   rw [e,List.append_assoc,<-hq] at h4;have ih:=ZfM (m:=m) (s:=q) (r:=r) (fun y hy=>h1 y (List.mem_cons_of_mem _ hy)) (by simpa using h2) (by simpa using h3) hq;rw [rep,(Zck s x q).2 ⟨h1 x (List.mem_cons_self ..),h4⟩];simp only [ih]
theorem Zqs:∀ (m:Nat) (s:ByteArray),s.data.toList=flat actB (rep m s).1++(rep m s).2.data.toList/\(∀ x ∈ (rep m s).1,okX x)/\(rep m s).1.length<=m/\((rep m s).1.length=m\/rAct (rep m s).2=none)
 | 0,s=>by simp [rep,flat]
 | m+1,s=>by
  rw [rep]
  cases h:rAct s with
  | none=>simp [flat,h]
  | some y =>
   obtain ⟨x,r⟩:=y;obtain ⟨h1,h2⟩:=(Zck s x r).1 h;obtain ⟨i1,i2,i3,i4⟩:=Zqs m r;simp only;refine ⟨?_,?_,by simpa using i3,by simpa using i4⟩
   ·rw [h2];have e:flat actB (x :: (rep m r).1)=actB x++flat actB (rep m r).1:=by simp [flat]
    rw [e,List.append_assoc,<-i1]
   ·intro y hy;rcases List.mem_cons.1 hy with rfl | hy
    ·exact h1
    ·exact i2 y hy
theorem Zor {l:List Act} {m:Nat} {s r q:ByteArray} {x:Act} (h:rep m s=(l++(rep (m - l.length) r).1,(rep (m - l.length) r).2)) (hl:l.length<m) (hr:rAct r=some (x,q)) :
 rep m s=((l++[x])++(rep (m - (l++[x]).length) q).1,(rep (m - (l++[x]).length) q).2):=by
 rw [h]
 obtain ⟨k,hk⟩:∃ k,m - l.length=k+1:=⟨m - l.length - 1,by omega⟩
 have hk2:m - (l++[x]).length=k:=by simp only [List.length_append,List.length_cons,List.length_nil];omega
 rw [hk,hk2,rep,hr];simp
theorem Zpe {l:List Act} {m:Nat} {s r:ByteArray} (h:rep m s=(l++(rep (m - l.length) r).1,(rep (m - l.length) r).2)) (hr:rAct r=none):rep m s=(l,r):=by
 rw [h]
 cases hk:m - l.length with
 | zero=>simp [rep]
 | succ k=>simp [rep,hr]
theorem Zoq {l:List Act} {m:Nat} {s r:ByteArray} (h:rep m s=(l++(rep (m - l.length) r).1,(rep (m - l.length) r).2)) (hl:m<=l.length):rep m s=(l,r):=by
 rw [h,show m - l.length=0 by omega];simp [rep]
theorem Zbr {α:Type} (enc:α->B) (l m:List α):flat enc (l++m)=flat enc l++flat enc m:=by simp [flat]
def endK (l:List Act) (k:Nat):Nat:=(flat actB (l.take k)).length
theorem Zoc {l:List Act} {k:Nat} (h:k<l.length):endK l (k+1)=endK l k+(actB l[k]).length:=by
 unfold endK;rw [List.take_succ_eq_append_getElem h,Zew,List.length_append]
theorem ZsU {l:List Act} {m k j:Nat} {s:ByteArray} (h1:∀ x ∈ l,okX x) (h2:l.length<=m) (hs:s.data.toList=(flat actB l).take k) (hj:j<=l.length) (ha:endK l j<=k) (hb:j=l.length\/k<endK l (j+1)) :
 (rep m s).1=l.take j:=by
 have e:flat actB l=flat actB (l.take j)++flat actB (l.drop j):=by
  rw [<-Zbr,List.take_append_drop]
 have e2:(flat actB l).take k=flat actB (l.take j)++(flat actB (l.drop j)).take (k - endK l j):=by
  rw [e,List.take_append]
  congr 1
  exact List.take_of_length_le ha
 obtain ⟨p,hp⟩:=Zcu ((flat actB (l.drop j)).take (k - endK l j));rw [e2,<-hp] at hs
 have hn:rAct p=none:=by
  rcases Nat.lt_or_ge j l.length with hlt | hge
  ·have hk:k<endK l (j+1):=by rcases hb with hb | hb;omega;exact hb
   rw [Zoc hlt] at hk;have e3:l.drop j=l[j] :: l.drop (j+1):=List.drop_eq_getElem_cons hlt;have e4:flat actB (l.drop j)=actB l[j]++flat actB (l.drop (j+1)):=by rw [e3];rfl
   have e5:p.data.toList=(actB l[j]).take (k - endK l j):=by
    rw [hp,e4,List.take_append_of_le_length (by omega)]
   refine ZkT (x:=l[j]) (q:=(actB l[j]).drop (k - endK l j)) (h1 _ (gM hlt)) (by rw [e5,List.take_append_drop]) ?_;intro h9;have:=List.drop_eq_nil_iff.1 h9;omega
  ·have e3:l.drop j=[]:=List.drop_of_length_le hge;have e5:p.data.toList=[]:=by rw [hp,e3];simp [flat]
   rw [Ztq e5];rfl
 have:=ZfM (l:=l.take j) (m:=m) (s:=s) (r:=p) (fun x hx=>h1 x (List.mem_of_mem_take hx)) (by rw [List.length_take];omega) (.inr hn) hs;rw [this]
end Im
namespace Im
def doE (a:Ar.A) (x:Act):Int :=
 if x.kind=1 then Ar.putE a x.name x.text x.n else if x.kind=2 then Ar.getE a x.name else if x.kind=3 then Ar.retE a x.n else if x.kind=4 then Ar.chk a else 6
def doA (a:Ar.A) (x:Act):Ar.A :=
 if x.kind=1 then Ar.putA a x.name x.text x.n else if x.kind=2 then Ar.Zbw a x.name else if x.kind=3 then Ar.retA a x.n else if x.kind=4 then Ar.cmpA a else Ar.az
def Zro (l:List Act) (a:Ar.A):Ar.A:=l.foldl (fun a x=>if doE a x=0 then doA a x else a) a
def done (l:List Act):Ar.A:=Zro l Ar.az
def wrtT (x:Act):ByteArray:=if actE x=0 then ⟨(actB x).toArray⟩ else ⟨#[]⟩
def rplE (s:ByteArray):Int:=if 16384<s.size then 2 else 0
def rplL (s:ByteArray):List Act:=if 16384<s.size then [] else (rep 100 s).1
def rplN (s:ByteArray):Nat:=if 16384<s.size then 0 else s.size - (rep 100 s).2.size
def stoE (s:ByteArray) (x:Act):Int :=
 if rplE s ≠ 0 then rplE s else if actE x ≠ 0 then actE x else if (rplL s).length=100\/16384<rplN s+(wrtT x).size then 2 else doE (done (rplL s)) x
def stoT (s:ByteArray) (x:Act):ByteArray:=if stoE s x=0 then s.extract 0 (rplN s)++wrtT x else ⟨#[]⟩
theorem ZnA (l:List Act) (x:Act):done (l++[x])=if doE (done l) x=0 then doA (done l) x else done l:=by
 unfold done Zro;rw [List.foldl_append];rfl
end Im
end Go.Proofs.YtbjbjbpgmojcbacGreat
