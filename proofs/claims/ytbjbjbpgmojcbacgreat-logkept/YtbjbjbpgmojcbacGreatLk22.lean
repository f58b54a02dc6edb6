/- A part of the proof: what it leans on. -/
import Derived.Lib.AppendZerosOnto
import Derived.Lib.Overlaps
import Derived.Lib.SliceRun
import Derived.Shelf.Spec.SlicesInsert
import Derived.Laws.CopyRow
import Derived.Test.YtbjbjbpgmojcbacGreatLk21
set_option maxRecDepth 8000
set_option maxHeartbeats 8000000
namespace Go.Proofs.YtbjbjbpgmojcbacGreat
open Go.RowKit
theorem ZcD (s:ByteArray) (p:Nat) (w:World) (h:Rdr w p s) (hs:s.size<=281474976710656) :
 Calls Tryz.prog 85 #[.pointer (some ⟨p,0,none⟩)] w fun e w'=>ZE (Im.rCnt 2147483647 s) Value.string p w e w':=by
 have C1:=ZcQ s p w h hs;unfold ZE at C1
 cases hr:Im.rNum s with
 | none =>
  have hu:Im.rCnt 2147483647 s=none:=by unfold Im.rCnt;rw [hr]
  have hQ:Hid (∀ w',On p w w'->ZE (Im.rCnt 2147483647 s) Value.string p w (.panicked PN) w'):=fun w' h9=>ZaS hu h9
  generalize ZE (Im.rCnt 2147483647 s) Value.string p w=Q at *;rw [hr] at C1;simp only at C1;clear hr hu h;go_enter Tryz.func85,Tryz.ntmps85
  go_wp2_with fail
  refine C1.mono ?_;rintro e w1 ⟨G,rfl⟩;go_wp2_with fail
  exact ⟨rfl,hQ.out _ G⟩
 | some x =>
  obtain ⟨n,q⟩:=x;rw [hr] at C1;simp only at C1;have hn:=((Im.ZbD s n q).1 hr).1
  have hqs:q.size<=s.size:=by
   have:=congrArg List.length ((Im.ZbD s n q).1 hr).2;rw [List.length_append,<-Im.Zq,<-Im.Zq] at this;omega
  by_cases hle:n<=q.size
  ·have hu:Im.rCnt 2147483647 s=some (q.extract 0 n,q.extract n q.size):=by unfold Im.rCnt;rw [hr];exact if_pos ⟨hn,hle⟩
   have hQ:Hid (∀ w',On p w w'->Rdr w' p (q.extract n q.size)->ZE (Im.rCnt 2147483647 s) Value.string p w (.returned (.string (q.extract 0 n))) w'):=fun w' h9 h8=>Zbl hu h9 h8
   generalize ZE (Im.rCnt 2147483647 s) Value.string p w=Q at *;have d1:decide ((n:Int)<=(q.size:Int))=true:=zdT (by omega);have d1':decide (n<=q.size)=true:=zdT hle;have hni:(n:Int)<=(q.size:Int):=by omega
   clear hr hu h;go_enter Tryz.func85,Tryz.ntmps85
   go_wp2_with fail
   refine C1.mono ?_;rintro e w1 ⟨G,rfl,R1⟩;have c1:=R1.c;go_wp2_with fail
   refine (ZdE _).mono ?_;rintro e w2 ⟨rfl,rfl⟩;go_wp2_with fail
   refine (ZM _ _ (by simp;omega)).mono ?_;rintro e w3 ⟨rfl,G3⟩;have R3:=R1.below G3;have c3:=R3.c;have f3:=R3.f;go_wp2_with fail
   exact hQ.out _ ((G.trans (On.of G3)).set _) (R3.set _)
  ·have hu:Im.rCnt 2147483647 s=none:=by unfold Im.rCnt;rw [hr];exact if_neg (fun h9=>hle h9.2)
   have hQ:Hid (∀ w',On p w w'->ZE (Im.rCnt 2147483647 s) Value.string p w (.panicked PN) w'):=fun w' h9=>ZaS hu h9
   generalize ZE (Im.rCnt 2147483647 s) Value.string p w=Q at *;have d1:decide ((n:Int)<=(q.size:Int))=false:=dF (by omega);have d1':decide (n<=q.size)=false:=dF hle;clear hr hu h;go_enter Tryz.func85,Tryz.ntmps85
   go_wp2_with fail
   refine C1.mono ?_;rintro e w1 ⟨G,rfl,R1⟩;have c1:=R1.c;go_wp2_with fail
   refine (Zfu _).mono ?_;rintro e w2 ⟨rfl,rfl⟩;go_wp2_with fail
   exact ⟨rfl,hQ.out _ G⟩
def rEnd (s:ByteArray):Option (Unit × ByteArray):=if s.size=0 then some ((),s) else none
theorem ZlB (s:ByteArray) (p:Nat) (w:World) (h:Rdr w p s) :
 Calls Tryz.prog 112 #[.pointer (some ⟨p,0,none⟩)] w fun e w'=>ZE (rEnd s) (fun _=>.tuple #[]) p w e w':=by
 have c:=h.c;by_cases hz:s.size=0
 ·have hQ:Hid (∀ w',On p w w'->Rdr w' p s->ZE (rEnd s) (fun _=>.tuple #[]) p w (.returned (.tuple #[])) w'):=fun w' h9 h8=>Zbl (x:=()) (if_pos hz) h9 h8
  generalize ZE (rEnd s) (fun _=>.tuple #[]) p w=Q at *
  obtain rfl:s=⟨#[]⟩:=by
   apply Nm.ZF;rw [Im.Zq] at hz;exact lZ.1 hz
  go_enter Tryz.func112,Tryz.ntmps112
  go_wp2_with fail
  refine (ZdE _).mono ?_;rintro e w2 ⟨rfl,rfl⟩;go_wp2_with fail
  go_end0
  exact hQ.out _ (On.refl _ _) h
 ·have hQ:Hid (∀ w',On p w w'->ZE (rEnd s) (fun _=>.tuple #[]) p w (.panicked PN) w'):=fun w' h9=>ZaS (if_neg hz) h9
  generalize ZE (rEnd s) (fun _=>.tuple #[]) p w=Q at *
  have d1:s.toList.isEmpty=false:=by
   cases hl:s.toList with
   | nil=>exact absurd (by rw [Im.Zq,<-ByteArray.toList_eq,hl];rfl) hz
   | cons=>rfl
  go_enter Tryz.func112,Tryz.ntmps112
  go_wp2_with fail
  refine (Zfu _).mono ?_;rintro e w2 ⟨rfl,rfl⟩;go_wp2_with fail
  exact ⟨rfl,hQ.out _ (On.refl _ _)⟩
theorem Zbj (s:ByteArray) (w:World) :
 Calls Tryz.prog 84 #[.string s] w fun e w'=>e=.returned (.pointer (some ⟨w.heap.size,0,none⟩))/\w'=w.alloc (.cells #[.string s] 138 (0,0)):=by
 go_enter Tryz.func84,Tryz.ntmps84
 go_wp2_with fail
 go_ret
 exact ⟨rfl,rfl⟩
theorem Zns {α:Type} {p:ByteArray->Option (α × ByteArray)} {enc:α->Im.B} {ok:α->Prop} (hp:Im.Rd p enc ok) {s r:ByteArray} {x:α} (h:p s=some (x,r)):r.size<=s.size:=by
 have:=congrArg List.length ((hp s x r).1 h).2;rw [List.length_append,<-Im.Zq,<-Im.Zq] at this;omega
theorem On.set1 {p:Nat} {w w':World} (h:On p w w') {b:Nat} (hb:w.heap.size<=b) (o:Nat) (v:Value):On p w (w'.setCell ⟨b,o,none⟩ v) :=
 ⟨h.os,h.tape,h.output,by have:=h.size;simpa [World.setCell] using this,fun k hk hne=>(zhS _ _ _ _ (by simp;omega)).trans (h.block k hk hne)⟩
theorem On.past {p:Nat} {w w1 w':World} (h:On p w w1) (g:On p w1 w'):On p w w':=h.trans g
structure FB (w:World) (b:Nat) (f:Nat->Value):Prop where
 c:∀ i,i<5->w.cell? ⟨b,i,none⟩=some (f i)
 z:∀ i,i<5->w.frozen? ⟨b,i,none⟩=false
theorem FB.lt {w:World} {b:Nat} {f:Nat->Value} (h:FB w b f):b<w.heap.size:=World.block_lt_of_cell? w _ (h.c 0 (by omega))
theorem FB.on {w w':World} {b p:Nat} {f:Nat->Value} (h:FB w b f) (g:On p w w') (hne:b ≠ p):FB w' b f:=by
 have hb:=g.block b h.lt (by simp;omega);exact ⟨fun i hi=>(cB (w:=w) (a:=⟨b,i,none⟩) hb).trans (h.c i hi),fun i hi=>(fB (w:=w) (a:=⟨b,i,none⟩) hb).trans (h.z i hi)⟩
theorem FB.set {w:World} {b:Nat} {f:Nat->Value} (h:FB w b f) (i:Nat) (hi:i<5) (v:Value):FB (w.setCell ⟨b,i,none⟩ v) b (fun j=>if j=i then v else f j):=by
 refine ⟨fun j hj=>?_,fun j hj=>by rw [World.frozen?_setCell];exact h.z j hj⟩;by_cases e:j=i
 ·subst e;rw [if_pos rfl];exact cS _ _ _ (h.c j hj)
 ·rw [if_neg e];exact (cO _ _ _ _ (by intro h9;exact e (congrArg Addr.off h9).symm)).trans (h.c j hj)
theorem FB.low {w:World} {b b':Nat} {f:Nat->Value} (h:FB w b f) (hne:b ≠ b') (o:Nat) (v:Value):FB (w.setCell ⟨b',o,none⟩ v) b f :=
 ⟨fun i hi=>(cO _ _ _ _ (by intro e;have:=congrArg Addr.block e;simp at this;omega)).trans (h.c i hi),fun i hi=>by rw [World.frozen?_setCell];exact h.z i hi⟩
theorem Rdr.low {w:World} {p b:Nat} {s:ByteArray} (h:Rdr w p s) (hne:p ≠ b) (o:Nat) (v:Value):Rdr (w.setCell ⟨b,o,none⟩ v) p s :=
 ⟨(cO _ _ _ _ (by intro e;have:=congrArg Addr.block e;simp at this;omega)).trans h.c,by rw [World.frozen?_setCell];exact h.f⟩
def fcs:List Ar.F->List Value
 | []=>[]
 | f :: fs=>[.string f.name,.int .i64 f.dict,.int .i64 f.size,.int .i64 f.sum,.string f.blk]++fcs fs
theorem Zag:∀ fs:List Ar.F,(fcs fs).length=fs.length*5
 | []=>rfl
 | f :: fs=>by rw [fcs,List.length_append,Zag fs,List.length_cons];simp;omega
theorem Zy:∀ fs gs:List Ar.F,fcs (fs++gs)=fcs fs++fcs gs
 | [],_=>rfl
 | f :: fs,gs=>by rw [List.cons_append,fcs,fcs,Zy fs gs,List.append_assoc]
structure ArOwn (lo:Nat) (w:World) (v1 v2:Value) (a:Ar.A):Prop where
 o1:w.ownsRow lo 9 1 v1 a.dicts.length (a.dicts.map Value.string)
 o2:w.ownsRow lo 47 5 v2 a.files.length (fcs a.files)
 ne:∀ j,v1.ownBlock=some j->v2.ownBlock ≠ some j
theorem box3 (w:World) (a b c:Array Value) (s t u:TypeId):(∀ i,(((w.alloc (.cells a s (0,0))).alloc (.cells b t (0,0))).alloc (.cells c u (0,0))).cell? ⟨w.heap.size,i,none⟩=a[i]?)/\(∀ i,(((w.alloc (.cells a s (0,0))).alloc (.cells b t (0,0))).alloc (.cells c u (0,0))).cell? ⟨w.heap.size+1,i,none⟩=b[i]?) ∧
 ∀ i,(((w.alloc (.cells a s (0,0))).alloc (.cells b t (0,0))).alloc (.cells c u (0,0))).cell? ⟨w.heap.size+2,i,none⟩=c[i]?:=by
 refine ⟨fun i=>?_,fun i=>?_,fun i=>?_⟩
 ·rw [World.cell?_alloc_lt _ _ _ (by simp;omega)];exact (box2 w a b s t).1 i
 ·rw [World.cell?_alloc_lt _ _ _ (by simp)];exact (box2 w a b s t).2 i
 ·have e:((w.alloc (.cells a s (0,0))).alloc (.cells b t (0,0))).heap.size=w.heap.size+2:=by simp
  rw [<-e,World.cell?_alloc_new]
theorem Zri {xs:List ByteArray} {k:Nat} (h:k<xs.length):(xs.take (k+1)).map Value.string=(xs.take k).map Value.string++[.string (Tr.xa xs k)]:=by
 rw [List.take_succ_eq_append_getElem h,List.map_append];simp [Tr.xa,h]
theorem Zpd {fs:List Ar.F} {k:Nat} (h:k<fs.length):fcs (fs.take (k+1))=fcs (fs.take k)++[.string (Ar.fa fs k).name,.int .i64 (Ar.fa fs k).dict,.int .i64 (Ar.fa fs k).size,.int .i64 (Ar.fa fs k).sum,.string (Ar.fa fs k).blk]:=by
 rw [Ar.ZN h,Zy];rfl
theorem one5 (a b:ByteArray) (x y z:Int):∀ u ∈ ([.string a,.int .i64 x,.int .i64 y,.int .i64 z,.string b]:List Value),u.oneCell'=true:=by
 intro u hu;simp at hu;rcases hu with rfl | rfl | rfl | rfl | rfl <;> rfl
theorem Zdw (w:World) (p q r s t:Value) (T:TypeId):∀ j u,[p,q,r,s,t][j]?=some u->(w.alloc (.cells #[p,q,r,s,t] T)).cell? ((⟨w.heap.size,0,none⟩:Addr).add j)=some u:=by
 intro j u hj;rw [Zax,World.cell?_alloc_mark];simpa using hj
theorem fz3 (w:World) (a b c:Array Value) (s t u:TypeId) (x o:Nat) (h1:x<w.heap.size+3) (h2:w.heap.size<=x):(((w.alloc (.cells a s (0,0))).alloc (.cells b t (0,0))).alloc (.cells c u (0,0))).frozen? ⟨x,o,none⟩=false:=by
 have e1:(w.alloc (.cells a s (0,0))).heap.size=w.heap.size+1:=by simp
 have e2:((w.alloc (.cells a s (0,0))).alloc (.cells b t (0,0))).heap.size=w.heap.size+2:=by simp
 by_cases k2:x=w.heap.size+2
 ·exact fN _ _ _ _ (by rw [e2];exact k2)
 ·rw [World.frozen?_alloc_past _ _ _ (by rw [e2];omega)];by_cases k1:x=w.heap.size+1
  ·exact fN _ _ _ _ (by rw [e1];exact k1)
  ·rw [World.frozen?_alloc_past _ _ _ (by rw [e1];omega)];exact fN _ _ _ _ (by omega)
theorem Zi {w:World} {b:Nat} {e:TypeId} {size:Nat} {v:Value} {n:Nat} {xs:List Value} (h:w.ownsRow b e size v n xs):∃ ad cap,v=.slice ad n cap/\n<=cap:=by
 rcases h.2 with ⟨h1,h2⟩ | ⟨g,cap,cur,h1,h2,h3,h4,_⟩
 ·exact ⟨none,0,by rw [h1,h2],by omega⟩
 ·exact ⟨_,cap,h1,h4⟩
theorem ZcI {w:World} {b c:Nat} {e:TypeId} {size:Nat} {v:Value} {n:Nat} {xs:List Value} (h:w.ownsRow b e size v n xs) (hc:c<=b):w.ownsRow c e size v n xs:=by
 refine ⟨h.1,?_⟩;rcases h.2 with h2 | ⟨g,cap,cur,h1,h2,h3⟩
 ·exact .inl h2
 ·exact .inr ⟨g,cap,cur,h1,by omega,h3⟩
theorem Zbe (ad af:Option Addr) (cd cf:Nat) (a:Ar.A) (w:World) (h:ArV w ad af a) (hs:SaneA a) (h4:a.dicts.length<=4) (h12:a.files.length<=12) :
 Calls Tryz.prog 29 #[av ad cd af cf a] w fun e w'=>∃ v1 v2,e=.returned (.agg #[v1,v2])/\ArOwn w.heap.size w' v1 v2 a/\Below w.heap.size w w':=by
 obtain ⟨i0,hi,hz0,hz1,hz2⟩:=info_parts (P:=Tryz.prog) (e:=9) (z:=.string ⟨#[]⟩) (size:=1) (bytes:=16) (by kernel_rfl);obtain ⟨j0,gi,gz0,gz1,gz2⟩:=info_parts (P:=Tryz.prog) (e:=47) (z:=.agg #[.string ⟨#[]⟩,.int .i64 0,.int .i64 0,.int .i64 0,.string ⟨#[]⟩]) (size:=5) (bytes:=56) (by kernel_rfl);have HFs:Hid (∀ k,k<a.files.length->fcs (a.files.take (k+1))=fcs (a.files.take k)++[.string (Ar.fa a.files k).name,.int .i64 (Ar.fa a.files k).dict,.int .i64 (Ar.fa a.files k).size,.int .i64 (Ar.fa a.files k).sum,.string (Ar.fa a.files k).blk]):=fun k hk=>Zpd hk
 have HX:Hid (∀ w',Below w.heap.size w w'->∀ k,k<a.dicts.length->∃ b off,ad=some ⟨b,off,none⟩/\b<w'.heap.size/\w'.cell? ⟨b,off+k,none⟩=some (.string (Tr.xa a.dicts k))):=fun w' hb k hk=>(h.ds.below hb).at hk
 have HFl:Hid (∀ w',Below w.heap.size w w'->∀ k,k<a.files.length->∃ b off,af=some ⟨b,off,none⟩/\b<w'.heap.size/\FlC w' b (off+k*5) (Ar.fa a.files k)):=fun w' h9 k hk=>(h.fs.below h9).at hk
 have HZ:Hid (∀ k,(Tr.xa a.dicts k).size<=281474976710656/\(Ar.fa a.files k).name.size<=281474976710656/\(Ar.fa a.files k).blk.size<=281474976710656):=fun k=>⟨nt (hs.ds k) (by decide),nt (hs.nm k) (by decide),nt (hs.bk k) (by decide)⟩
 have HE:Hid (∀ v1 v2 w',w'.ownsRow (w.heap.size+3) 9 1 v1 a.dicts.length (a.dicts.map Value.string)->w'.ownsRow (w.heap.size+3) 47 5 v2 a.files.length (fcs a.files)->(∀ j,v1.ownBlock=some j->v2.ownBlock ≠ some j)->ArOwn w.heap.size w' v1 v2 a):=fun v1 v2 w' h1 h2 h3=>⟨ZcI h1 (by omega),ZcI h2 (by omega),h3⟩
 have HDs:Hid (∀ k,k<a.dicts.length->(a.dicts.take (k+1)).map Value.string=(a.dicts.take k).map Value.string++[.string (Tr.xa a.dicts k)]):=fun k hk=>Zri hk
 clear h hs;unfold av
 obtain ⟨D,hD⟩:∃ D,a.dicts.length=D:=⟨_,rfl⟩
 obtain ⟨N,hN⟩:∃ N,a.files.length=N:=⟨_,rfl⟩
 simp only [hD,hN] at HX HFl HE HDs HFs;rw [hD] at h4 |-
 rw [hN] at h12 |-
 have HDD:Hid (a.dicts.length=D):=hD;have HNN:Hid (a.files.length=N):=hN;clear hD hN;have hD':(D:Int)<=4:=by omega
 have hN':(N:Int)<=12:=by omega
 go_enter Tryz.func29,Tryz.ntmps29
 go_wp2_with fail
 obtain ⟨k1,k2,k3⟩:=box3 w #[.slice ad D cd,.slice af N cf] #[.slice none 0 0,.slice none 0 0] #[.slice none 0 0,.slice none 0 0] 33 33 33;have B0:Below w.heap.size w (((w.alloc (.cells #[.slice ad D cd,.slice af N cf] 33 (0,0))).alloc (.cells #[.slice none 0 0,.slice none 0 0] 33 (0,0))).alloc (.cells #[.slice none 0 0,.slice none 0 0] 33 (0,0))):=(((bR _ _).alloc (nl _) _).alloc (by simp) _).alloc (by simp;omega) _;have hsz:(((w.alloc (.cells #[.slice ad D cd,.slice af N cf] 33 (0,0))).alloc (.cells #[.slice none 0 0,.slice none 0 0] 33 (0,0))).alloc (.cells #[.slice none 0 0,.slice none 0 0] 33 (0,0))).heap.size=w.heap.size+3:=by simp
 have fz:∀ b o,b<w.heap.size+3->w.heap.size<=b->(((w.alloc (.cells #[.slice ad D cd,.slice af N cf] 33 (0,0))).alloc (.cells #[.slice none 0 0,.slice none 0 0] 33 (0,0))).alloc (.cells #[.slice none 0 0,.slice none 0 0] 33 (0,0))).frozen? ⟨b,o,none⟩=false:=fun b o h1 h2=>fz3 w _ _ _ _ _ _ b o h1 h2
 generalize (((w.alloc (.cells #[.slice ad D cd,.slice af N cf] 33 (0,0))).alloc (.cells #[.slice none 0 0,.slice none 0 0] 33 (0,0))).alloc (.cells #[.slice none 0 0,.slice none 0 0] 33 (0,0)))=w3 at *;have a0:w3.cell? ⟨w.heap.size,0,none⟩=some (.slice ad D cd):=k1 0;have a1:w3.cell? ⟨w.heap.size,1,none⟩=some (.slice af N cf):=k1 1;have r0:w3.cell? ⟨w.heap.size+1,0,none⟩=some (.slice none 0 0):=k2 0;have r1:w3.cell? ⟨w.heap.size+1,1,none⟩=some (.slice none 0 0):=k2 1
 have S0:ClS w3 w3 (w.heap.size+2) (w.heap.size+3) (.slice none 0 0) (.slice none 0 0) 0 0 [] [] :=
  ⟨k3 0,k3 1,fz _ _ (by omega) (by omega),fz _ _ (by omega) (by omega),⟨rfl,.inl ⟨rfl,rfl⟩⟩,⟨rfl,.inl ⟨rfl,rfl⟩⟩,fun j hj=>by simp [Value.ownBlock] at hj,by omega,by omega,bR _ _⟩
 have zr:=fz (w.heap.size+1) 0 (by omega) (by omega);have zr1:=fz (w.heap.size+1) 1 (by omega) (by omega);have hszH:Hid (w3.heap.size=w.heap.size+3):=hsz;have hs1:w.heap.size<w3.heap.size:=by omega
 have hs2:w.heap.size+1<w3.heap.size:=by omega
 have hs3:w.heap.size+2<w3.heap.size:=by omega
 clear k1 k2 k3 fz hsz;go_loopw [11] (fun i wr=>∃ (k:Nat) (v:Value),k<=D/\i=.int .i64 k/\ClS w3 wr (w.heap.size+2) (w.heap.size+3) v (.slice none 0 0) k 0 ((a.dicts.take k).map Value.string) []) (fun i _=>D - (intOf i).toNat)
 case atStart=>exact ⟨0,.slice none 0 0,by omega,rfl,S0⟩
 case round =>
  clear S0;obtain ⟨k,v,hk2,rfl,S1⟩:=hrel;have B1:Below w.heap.size w wr:=B0.trans (S1.bel.mono (by omega));have hzr:w.heap.size+3<=wr.heap.size:=S1.hb;have a1':=(S1.bel.cell (p:=⟨w.heap.size,1,none⟩) (by show w.heap.size<_;omega)).trans a1;by_cases hlt:k<D
  ·have d1:decide ((k:Int)<(D:Int))=true:=by simp;omega
   have d1':decide (k<D)=true:=by simp;omega
   have hki:(k:Int)<(D:Int):=by omega
   obtain ⟨b,off,rfl,hbl,hc⟩:=HX.out wr B1 k hlt;have xz:=(HZ.out k).1;have HS:=HDs.out k hlt;generalize Tr.xa a.dicts k=X at *;have c0:=S1.c0;have f0:=S1.f0;go_wp2_with fail
   go_region_law (first
    | (refine zsL _ rfl _ _ 30 rfl (w.heap.size+3) 9 i0 (.string ⟨#[]⟩) 1 16 U30 hi hz0 hz1 hz2 rfl (by decide) v _ _ rfl (S2.o1.alloc _) ⟨w2.heap.size,0,none⟩ 1 1 [.string X] rfl rfl (cell_one_new _ _ _) (by simp [Value.oneCell']) (by decide) (by unfold maxLen;omega) (by omega) (by simp;omega) _ rfl ?_;intro g cp w5 hown5 hgrow5 hat5 hlt5;obtain ⟨⟨q1,q2⟩,S3⟩:=S2.put1 hgrow5 hown5 hat5;clear hgrow5 hown5 hat5 hlt5)
    | (go_simp;go_at_call 35;refine (ZM _ _ xz).mono ?_;rintro e w2 ⟨rfl,G2⟩;have S2:=S1.below (Below.trans ((bR _ _).drew) G2);have c2:=S2.c0;have c3:∀ o,(w2.alloc o).cell? ⟨w.heap.size+2,0,none⟩=some v:=(fun o=>(cA _ _ _ (cL w2 _ c2)).trans c2);have hb2:=S2.hb))
   all_goals
    go_wp2_with fail
    go_roundw
    case rel=>exact ⟨k+1,_,by omega,by go_num,by rw [HS];exact S3⟩
    case measure=>simp [intOf];omega
  ·obtain rfl:k=D:=by omega
   have d1:decide ((k:Int)<(k:Int))=false:=by simp
   have HTD:Hid (a.dicts.take k=a.dicts):=by show _=_;rw [<-HDD.out,List.take_length]
   rw [HTD.out] at S1;have S2:ClS w3 wr (w.heap.size+2) (w.heap.size+3) v (.slice none 0 0) k 0 (a.dicts.map Value.string) (fcs (a.files.take 0)):=S1;clear S1 B1 hzr;go_wp2_with fail
   clear a1';go_loopw [26] (fun i wr=>∃ (m:Nat) (v2:Value),m<=N/\i=.int .i64 m/\ClS w3 wr (w.heap.size+2) (w.heap.size+3) v v2 k m (a.dicts.map Value.string) (fcs (a.files.take m))) (fun i _=>N - (intOf i).toNat)
   case atStart=>exact ⟨0,.slice none 0 0,by omega,rfl,S2⟩
   case round =>
    clear S2;obtain ⟨m,v2,hm2,rfl,S1⟩:=hrel;have B1:Below w.heap.size w wr:=B0.trans (S1.bel.mono (by omega));have hzr:w.heap.size+3<=wr.heap.size:=S1.hb;by_cases hlt:m<N
    ·have d2:decide ((m:Int)<(N:Int))=true:=by simp;omega
     have d2':decide (m<N)=true:=by simp;omega
     have hmi:(m:Int)<(N:Int):=by omega
     obtain ⟨b,off,rfl,hbl,hc⟩:=HFl.out wr B1 m hlt;obtain ⟨c0,c1,c2,c3,c4⟩:=hc;have xz:=(HZ.out m).2.1;have xz4:=(HZ.out m).2.2;have HS:=HFs.out m hlt;generalize (Ar.fa a.files m).name=f0 at *;generalize (Ar.fa a.files m).dict=f1 at *;generalize (Ar.fa a.files m).size=f2 at *;generalize (Ar.fa a.files m).sum=f3 at *;generalize (Ar.fa a.files m).blk=f4 at *;have C0:=fun w=>ZM f0 w xz
     have C4:=fun w=>ZM f4 w xz4
     go_wp2_with fail
     have S2:=S1.below ((bR _ _).alloc (nl _) (.cells #[.string f0,.int .i64 f1,.int .i64 f2,.int .i64 f3,.string f4] 47 (0,0)));have hF:=fun i=>cN wr #[.string f0,.int .i64 f1,.int .i64 f2,.int .i64 f3,.string f4] 47 i
     have hFz:=fun i=>fN (w:=wr) #[.string f0,.int .i64 f1,.int .i64 f2,.int .i64 f3,.string f4] 47 _ i rfl
     have hFs:wr.heap.size<(wr.alloc (.cells #[.string f0,.int .i64 f1,.int .i64 f2,.int .i64 f3,.string f4] 47 (0,0))).heap.size:=by simp
     generalize (wr.alloc (.cells #[.string f0,.int .i64 f1,.int .i64 f2,.int .i64 f3,.string f4] 47 (0,0)))=wF at *;generalize wr.heap.size=Fb at *
     have HSS:Hid (∀ w',Below wF.heap.size wF w'->Below wF.heap.size wF w'/\w'.cell? ⟨Fb,0,none⟩=some (.string f0)/\w'.cell? ⟨Fb,4,none⟩=some (.string f4)/\w'.frozen? ⟨Fb,0,none⟩=false/\w'.frozen? ⟨Fb,4,none⟩=false):=fun w' h9 =>
      ⟨h9,(h9.cell (p:=⟨Fb,0,none⟩) hFs).trans (hF 0),(h9.cell (p:=⟨Fb,4,none⟩) hFs).trans (hF 4),(h9.frozen (p:=⟨Fb,0,none⟩) hFs).trans (hFz 0),(h9.frozen (p:=⟨Fb,4,none⟩) hFs).trans (hFz 4)⟩
     have HW:Hid (∀ w',Below wF.heap.size wF w'->w'.setCell ⟨Fb,0,none⟩ (.string f0)=w'/\w'.setCell ⟨Fb,4,none⟩ (.string f4)=w'):=fun w' h9 =>
      ⟨ZP (HSS.out w' h9).2.1,ZP (HSS.out w' h9).2.2.1⟩
     have HF:Hid (∀ w',Below wF.heap.size wF w'->∀ i,w'.cell? ⟨Fb,i,none⟩=(#[.string f0,.int .i64 f1,.int .i64 f2,.int .i64 f3,.string f4]:Array Value)[i]?):=fun w' h9 i=>(h9.cell (p:=⟨Fb,i,none⟩) hFs).trans (hF i)
     clear hF hFz c0 c1 c2 c3 c4 B1 S1 hbl;go_region_held3 (fun w'=>Below wF.heap.size wF w'/\w'.cell? ⟨Fb,0,none⟩=some (.string f0)/\w'.cell? ⟨Fb,4,none⟩=some (.string f4)/\w'.frozen? ⟨Fb,0,none⟩=false/\w'.frozen? ⟨Fb,4,none⟩=false)
      (first | (exact HSS.out _ ((bR _ _).drew)) | (exact HSS.out _ (bch (And.left (by assumption)) G6 (nl _))) | (exact HSS.out _ (bch (And.left (by assumption)) G5 (nl _))) | (rw [(HW.out _ (And.left (by assumption))).1];assumption) | (rw [(HW.out _ (And.left (by assumption))).2];assumption))
      (first
       | (go_at_call 35;refine (C0 _).mono ?_;rintro e w5 ⟨rfl,G5⟩)
       | (go_at_call 35;refine (C4 _).mono ?_;rintro e w6 ⟨rfl,G6⟩))
     have G56:Below wF.heap.size wF w6:=bch (bch ((bR _ _).drew) G5 (nl _)) G6 (nl _);rw [(HW.out _ G56).1,(HW.out _ G56).2];have S3:=S2.below G56;have hF:=HF.out w6 G56;have b0:w6.cell? ⟨Fb,0,none⟩=some (.string f0):=hF 0;have b1:w6.cell? ⟨Fb,1,none⟩=some (.int .i64 f1):=hF 1;have b2:w6.cell? ⟨Fb,2,none⟩=some (.int .i64 f2):=hF 2;have b3:w6.cell? ⟨Fb,3,none⟩=some (.int .i64 f3):=hF 3;have b4:w6.cell? ⟨Fb,4,none⟩=some (.string f4):=hF 4;have c1:=S3.c1;have hb3:=S3.hb;clear HSS HW HF G5 G6 G56 S2 C0 C4 hF
     go_wp2_with (first
      | (at_builtin;refine zwL _ rfl _ _ 31 rfl (w.heap.size+3) 47 j0 (.agg #[.string ⟨#[]⟩,.int .i64 0,.int .i64 0,.int .i64 0,.string ⟨#[]⟩]) 5 56 U31 gi gz0 gz1 gz2 rfl (by decide) v2 _ _ rfl (S3.o2.alloc _) ⟨w6.heap.size,0,none⟩ 1 1 [.string f0,.int .i64 f1,.int .i64 f2,.int .i64 f3,.string f4] rfl rfl (Zdw _ _ _ _ _ _ _) (one5 _ _ _ _ _) (by decide) (by unfold maxLen;omega) (by omega) (by simp;omega) _ rfl ?_;intro g cp w7 hown7 hgrow7 hat7 hlt7;obtain ⟨⟨q1,q2⟩,S4⟩:=S3.put2 hgrow7 hown7 hat7;clear hgrow7 hown7 hat7 hlt7)
      | fail)
     go_roundw
     case rel=>exact ⟨m+1,_,by omega,by go_num,by rw [HS];exact S4⟩
     case measure=>simp [intOf];omega
    ·obtain rfl:m=N:=by omega
     have d2:decide ((m:Int)<(m:Int))=false:=by simp
     have HTN:Hid (a.files.take m=a.files):=by show _=_;rw [<-HNN.out,List.take_length]
     rw [HTN.out] at S1;have r0':=(S1.bel.cell (p:=⟨w.heap.size+1,0,none⟩) (by show w.heap.size+1<_;omega)).trans r0;have r1':=(S1.bel.cell (p:=⟨w.heap.size+1,1,none⟩) (by show w.heap.size+1<_;omega)).trans r1;have z0':=(S1.bel.frozen (p:=⟨w.heap.size+1,0,none⟩) (by show w.heap.size+1<_;omega)).trans zr;have z1':=(S1.bel.frozen (p:=⟨w.heap.size+1,1,none⟩) (by show w.heap.size+1<_;omega)).trans zr1;have c0:=S1.c0;have c1:=S1.c1;have g1:=Zc wr ⟨w.heap.size+1,0,none⟩ v;have g2:=Zc (wr.setCell ⟨w.heap.size+1,0,none⟩ v) ⟨w.heap.size+1,1,none⟩ v2
     have S5:ArOwn w.heap.size ((wr.setCell ⟨w.heap.size+1,0,none⟩ v).setCell ⟨w.heap.size+1,1,none⟩ v2) v v2 a :=
      HE.out v v2 _ ((S1.o1.kept g1 (.inr (Zat S1.o1 (by show w.heap.size+1<_;omega)).symm)).kept g2 (.inr (Zat S1.o1 (by show w.heap.size+1<_;omega)).symm))
       ((S1.o2.kept g1 (.inr (Zat S1.o2 (by show w.heap.size+1<_;omega)).symm)).kept g2 (.inr (Zat S1.o2 (by show w.heap.size+1<_;omega)).symm)) S1.ne
     have u0:((wr.setCell ⟨w.heap.size+1,0,none⟩ v).setCell ⟨w.heap.size+1,1,none⟩ v2).cell? ⟨w.heap.size+1,0,none⟩=some v:=(cO _ _ _ _ (by intro e;have:=congrArg Addr.off e;simp at this)).trans (cS _ _ _ r0');have u1:((wr.setCell ⟨w.heap.size+1,0,none⟩ v).setCell ⟨w.heap.size+1,1,none⟩ v2).cell? ⟨w.heap.size+1,1,none⟩=some v2:=cS _ _ _ ((cO _ _ _ _ (by intro e;have:=congrArg Addr.off e;simp at this)).trans r1');have B4:Below w.heap.size w ((wr.setCell ⟨w.heap.size+1,0,none⟩ v).setCell ⟨w.heap.size+1,1,none⟩ v2):=(B1.setCell (by show _<=w.heap.size+1;omega) _).setCell (by show _<=w.heap.size+1;omega) _;obtain ⟨p1,q1,rfl,_⟩:=Zi S1.o1;obtain ⟨p2,q2,rfl,_⟩:=Zi S1.o2;have hlt1:w.heap.size+1<wr.heap.size:=by omega
     clear HE HTN HFs HFl HX HDs HZ g1 g2;go_wp2_with fail
     generalize ((wr.setCell ⟨w.heap.size+1,0,none⟩ (.slice p1 k q1)).setCell ⟨w.heap.size+1,1,none⟩ (.slice p2 m q2))=wz at *;exact bodyPost_ret (v:=.agg #[.slice p1 k q1,.slice p2 m q2]) (by simp [results,Tryz.results29,go_sem,u0,u1]) rfl ⟨_,_,rfl,S5,B4⟩
theorem ZaD (w:World) (g i j:Nat) (v:Value) (h:i ≠ j):(w.setCell ⟨g,i,none⟩ v).cell? ⟨g,j,none⟩=w.cell? ⟨g,j,none⟩:=World.cell?_setCell_other _ _ _ _ (by intro e;have:=congrArg Addr.off e;exact h this)
theorem Zix {w:World} {g i:Nat} {v u:Value} (h:w.cell? ⟨g,i,none⟩=some u):(w.setCell ⟨g,i,none⟩ v).cell? ⟨g,i,none⟩=some v:=World.cell?_setCell_same _ _ _ h
def w5s (w:World) (g o:Nat) (v0 v1 v2 v3 v4:Value):World:=((((w.setCell ⟨g,o,none⟩ v0).setCell ⟨g,o+1,none⟩ v1).setCell ⟨g,o+2,none⟩ v2).setCell ⟨g,o+3,none⟩ v3).setCell ⟨g,o+4,none⟩ v4
theorem set5 {w:World} {g o:Nat} {u0 u1 u2 u3 u4:Value} (v0 v1 v2 v3 v4:Value) (h0:w.cell? ⟨g,o,none⟩=some u0) (h1:w.cell? ⟨g,o+1,none⟩=some u1) (h2:w.cell? ⟨g,o+2,none⟩=some u2) (h3:w.cell? ⟨g,o+3,none⟩=some u3) (h4:w.cell? ⟨g,o+4,none⟩=some u4) :
 (w5s w g o v0 v1 v2 v3 v4).cell? ⟨g,o,none⟩=some v0/\(w5s w g o v0 v1 v2 v3 v4).cell? ⟨g,o+1,none⟩=some v1/\(w5s w g o v0 v1 v2 v3 v4).cell? ⟨g,o+2,none⟩=some v2/\(w5s w g o v0 v1 v2 v3 v4).cell? ⟨g,o+3,none⟩=some v3/\(w5s w g o v0 v1 v2 v3 v4).cell? ⟨g,o+4,none⟩=some v4:=by
 unfold w5s;refine ⟨?_,?_,?_,?_,?_⟩
 ·rw [ZaD _ _ _ _ _ (by omega),ZaD _ _ _ _ _ (by omega),ZaD _ _ _ _ _ (by omega),ZaD _ _ _ _ _ (by omega)];exact Zix h0
 ·rw [ZaD _ _ _ _ _ (by omega),ZaD _ _ _ _ _ (by omega),ZaD _ _ _ _ _ (by omega)];exact Zix ((ZaD _ _ _ _ _ (by omega)).trans h1)
 ·rw [ZaD _ _ _ _ _ (by omega),ZaD _ _ _ _ _ (by omega)];exact Zix ((ZaD _ _ _ _ _ (by omega)).trans ((ZaD _ _ _ _ _ (by omega)).trans h2))
 ·rw [ZaD _ _ _ _ _ (by omega)];exact Zix ((ZaD _ _ _ _ _ (by omega)).trans ((ZaD _ _ _ _ _ (by omega)).trans ((ZaD _ _ _ _ _ (by omega)).trans h3)))
 ·exact Zix ((ZaD _ _ _ _ _ (by omega)).trans ((ZaD _ _ _ _ _ (by omega)).trans ((ZaD _ _ _ _ _ (by omega)).trans ((ZaD _ _ _ _ _ (by omega)).trans h4))))
theorem ZfT {B:Nat} {a w:World} (h:Below B a w) (g o:Nat) (v0 v1 v2 v3 v4:Value) (hg:B<=g):Below B a (w5s w g o v0 v1 v2 v3 v4):=((((h.setCell hg _).setCell hg _).setCell hg _).setCell hg _).setCell hg _
theorem Zby (ad af:Option Addr) (cd cf:Nat) (a:Ar.A) (name text:ByteArray) (dict:Int) (w:World) (hx:TxSl w ad a.dicts) (hl:a.dicts.length<=4) (hd:(Ar.dct a.dicts dict).size<=256) (hh:Ar.has a.dicts dict=true) (ht:text.size<=512) (hn:name.size<=140737488355328) :
 Calls Tryz.prog 28 #[av ad cd af cf a,.string name,.string text,.int .i64 dict] w fun e w'=>e=.returned (.tuple #[fv (Ar.pk a.dicts name text dict),.int .i64 0])/\Below w.heap.size w w':=by
 have hb:=fun o p=>((bR w.heap.size w).alloc (nl _) o).alloc (by simp) p
 have c1:=fun o p=>ZbU ad af cd cf a dict ((w.alloc o).alloc p) (hx.below (hb o p)) (by omega) hh
 have hp:=Bk.ZhS hd ht;have c2:=fun w=>Zpn (Ar.dct a.dicts dict) text w (by omega) (by omega)
 have c3:=fun w=>ZM name w (by omega)
 have c4:=fun w=>ZlF text w (by omega)
 have e1:fv (Ar.pk a.dicts name text dict)=.agg #[.string name,.int .i64 dict,.int .i64 (text.size:Int),.int .i64 (Zaz text text.size:Nat),.string (Bk.pak (Ar.dct a.dicts dict) text).1]:=rfl;rw [e1];rw [hp.1] at c2;unfold av at c1 |-
 have hbk:(Bk.pak (Ar.dct a.dicts dict) text).1.size<=513:=by have:=hp.2.2;omega
 generalize (Bk.pak (Ar.dct a.dicts dict) text).1=K at *;generalize Ar.dct a.dicts dict=X at *;generalize Zaz text text.size=M at *;generalize a.dicts.length=D at *;generalize a.files.length=F at *;have ht':(text.size:Int)<=512:=by omega
 clear hx hp e1 hh hd;go_enter Tryz.func28,Tryz.ntmps28
 go_wp2_with fail
 refine (c1 _ _).mono ?_;rintro e w1 ⟨rfl,G⟩;have hz:w.heap.size+1<w1.heap.size:=by have:=G.size;simp at this;omega
 have r:=fun i=>(G.cell (p:=⟨w.heap.size+1,i,none⟩) (by simp)).trans ((box2 w #[.slice ad D cd,.slice af F cf] #[.string ⟨#[]⟩,.int .i64 0,.int .i64 0,.int .i64 0,.string ⟨#[]⟩] 33 47).2 i)
 have fz:∀ i,w1.frozen? ⟨w.heap.size+1,i,none⟩=false:=fun i=>(G.frozen (p:=⟨w.heap.size+1,i,none⟩) (by simp)).trans (fN _ _ _ _ (by simp))
 have B1:=bch (hb _ _) G (nl _);clear G c1 hb;go_wp2_with fail
 refine (c2 _).mono ?_;rintro e w2 ⟨rfl,G2⟩;have B2:=bch B1 G2 (nl _);have hz2:w.heap.size+1<w2.heap.size:=by have:=G2.size;omega
 have r2:=fun i=>(G2.cell (p:=⟨w.heap.size+1,i,none⟩) hz).trans (r i)
 have fz2:=fun i=>(G2.frozen (p:=⟨w.heap.size+1,i,none⟩) hz).trans (fz i)
 clear G2 r fz B1 c2;go_wp2_with fail
 refine (c3 _).mono ?_;rintro e w3 ⟨rfl,G3⟩;have B3:=bch B2 G3 (nl _);have r3:=fun i=>(G3.cell (p:=⟨w.heap.size+1,i,none⟩) hz2).trans (r2 i)
 have fz3:=fun i=>(G3.frozen (p:=⟨w.heap.size+1,i,none⟩) hz2).trans (fz2 i)
 have hz3:w.heap.size+1<w3.heap.size:=by have:=G3.size;omega
 clear G3 r2 fz2 B2 c3;go_wp2_with fail
 refine (c4 _).mono ?_;rintro e w4 ⟨rfl,rfl⟩;have r0:w4.cell? ⟨w.heap.size+1,0,none⟩=some (.string ⟨#[]⟩):=r3 0;have r1:w4.cell? ⟨w.heap.size+1,1,none⟩=some (.int .i64 0):=r3 1;have r2:w4.cell? ⟨w.heap.size+1,2,none⟩=some (.int .i64 0):=r3 2;have r4:w4.cell? ⟨w.heap.size+1,3,none⟩=some (.int .i64 0):=r3 3;have r5:w4.cell? ⟨w.heap.size+1,4,none⟩=some (.string ⟨#[]⟩):=r3 4;have y0:=fz3 0;have y1:=fz3 1;have y2:=fz3 2;have y3:=fz3 3;have y4:=fz3 4;clear r3 fz3 c4;go_wp2_with fail
 obtain ⟨k0,k1,k2,k3,k4⟩:=set5 (.string name) (.int .i64 dict) (.int .i64 (text.size:Int)) (.int .i64 (M:Int)) (.string K) r0 r1 r2 r4 r5;have B4:=ZfT B3 (w.heap.size+1) 0 (.string name) (.int .i64 dict) (.int .i64 (text.size:Int)) (.int .i64 (M:Int)) (.string K) (by omega);unfold w5s at k0 k1 k2 k3 k4 B4;simp only [Nat.zero_add] at k0 k1 k2 k3 k4 B4;generalize (((((w4.setCell ⟨w.heap.size+1,0,none⟩ (.string name)).setCell ⟨w.heap.size+1,1,none⟩ (.int .i64 dict)).setCell ⟨w.heap.size+1,2,none⟩ (.int .i64 (text.size:Int))).setCell ⟨w.heap.size+1,3,none⟩ (.int .i64 (M:Int))).setCell ⟨w.heap.size+1,4,none⟩ (.string K))=wz at *;exact bodyPost_ret (v:=.tuple #[.agg #[.string name,.int .i64 dict,.int .i64 (text.size:Int),.int .i64 (M:Int),.string K],.int .i64 0]) (by simp [results,Tryz.results28,go_sem,k0,k1,k2,k3,k4]) rfl ⟨rfl,B4⟩
theorem ZaK (w:World) (dT sT ty elem:TypeId) (g o dLen dCap:Nat) (a:Addr) (sLen sCap:Nat) (cur:Array Value) (t:TypeId) (cs:List Value)
 (hu:Tryz.prog.underlying dT=some (.slice elem)) (hs:(Tryz.prog.info? elem).map (·.size)=some 5)
 (hg:w.heap[g]?=some (.cells cur t (0,0))) (hn:cs.length=Nat.min sLen dLen*5)
 (hsrc:∀ j v,cs[j]?=some v->w.cell? (a.add j)=some v) (hfit:o+cs.length<=cur.size) (h1:∀ v ∈ cs,v.oneCell'=true) :
 (Builtin.copy_ #[dT,sT] ty #[.slice (some ⟨g,o,none⟩) dLen dCap,.slice (some a) sLen sCap]).run Tryz.prog w =
  .ok (goInt (Nat.min sLen dLen)) (w.setRow g (cur.toList.take o++cs++cur.toList.drop (o+cs.length)).toArray):=by
 have hl:=run_loadCells_list (P:=Tryz.prog) w a cs hsrc;have hst:=run_storeCells_at Tryz.prog g o t cs 0 cur w hg (by simpa using hfit) h1
 cases hq:Tryz.prog.info? elem with
 | none=>simp [hq] at hs
 | some i =>
  have hi:i.size=5:=by simpa [hq] using hs
  simp [Builtin.copy_,run_underlying hu,Builtin.lenOf,Builtin.firstCells,sizeOf,typeInfo,hq,hi,<-hn,hl,hst]
theorem ZeF:∀ fs:List Ar.F,∀ v ∈ fcs fs,v.oneCell'=true
 | [],v,h=>by cases h
 | f :: fs,v,h=>by
  rw [fcs,List.mem_append] at h;rcases h with h | h
  ·exact one5 _ _ _ _ _ v h
  ·exact ZeF fs v h
theorem ZdK:∀ (fs:List Ar.F) (i:Nat),fcs (fs.take i)=(fcs fs).take (i*5)
 | [],i=>by simp [fcs]
 | f :: fs,0=>by simp [fcs]
 | f :: fs,i+1=>by
  rw [List.take_succ_cons,fcs,fcs,ZdK fs i,show (i+1)*5=[Value.string f.name,.int .i64 f.dict,.int .i64 f.size,.int .i64 f.sum,.string f.blk].length+i*5 by simp;omega,List.take_length_add_append]
theorem ZdG:∀ (fs:List Ar.F) (i:Nat),fcs (fs.drop i)=(fcs fs).drop (i*5)
 | [],i=>by simp [fcs]
 | f :: fs,0=>by simp [fcs]
 | f :: fs,i+1=>by
  rw [List.drop_succ_cons,fcs,ZdG fs i,show (i+1)*5=[Value.string f.name,.int .i64 f.dict,.int .i64 f.size,.int .i64 f.sum,.string f.blk].length+i*5 by simp;omega,List.drop_length_add_append]
theorem Zkl {l cs nw:List Value} {m i:Nat} (h1:l.take m=cs) (h2:m+5<=l.length) (h3:i<=m) (h4:nw.length=5) :
 let l1:=l.take (i+5)++cs.drop i++l.drop (i+5+(cs.drop i).length)
 (l1.take i++nw++l1.drop (i+nw.length)).length=l.length/\(l1.take i++nw++l1.drop (i+nw.length)).take (m+5)=cs.take i++nw++cs.drop i:=by
 intro l1;have hc:cs.length=m:=by rw [<-h1,List.length_take];omega
 have e1:l1.take i=cs.take i:=by
  rw [show l1=l.take (i+5)++(cs.drop i++l.drop (i+5+(cs.drop i).length)) from List.append_assoc ..];rw [List.take_append_of_le_length (by rw [List.length_take];omega),List.take_take,<-h1,List.take_take]
  congr 1
  omega
 have e2:l1.drop (i+nw.length)=cs.drop i++l.drop (m+5):=by
  rw [show l1=l.take (i+5)++(cs.drop i++l.drop (i+5+(cs.drop i).length)) from List.append_assoc ..];rw [h4,List.drop_append_of_le_length (by rw [List.length_take];omega),List.drop_of_length_le (by rw [List.length_take];omega),List.nil_append,List.length_drop,hc,show i+5+(m - i)=m+5 by omega]
 rw [e1,e2];constructor
 ·simp only [List.length_append,List.length_take,List.length_drop];omega
 ·rw [<-List.append_assoc,List.take_append_of_le_length (by simp only [List.length_append,List.length_take,List.length_drop];omega),List.take_of_length_le (by simp only [List.length_append,List.length_take,List.length_drop];omega)]
theorem Zll {cs nw z:List Value} {m i:Nat} (hc:cs.length=m) (h2:m+5<=(cs.take i++z).length) (h3:i<=m) (h4:nw.length=5) :
 let l:=cs.take i++z
 let l1:=l.take i++nw++l.drop (i+nw.length)
 (l1.take (i+5)++cs.drop i++l1.drop (i+5+(cs.drop i).length)).length=l.length/\(l1.take (i+5)++cs.drop i++l1.drop (i+5+(cs.drop i).length)).take (m+5)=cs.take i++nw++cs.drop i:=by
 intro l l1;have hi:(cs.take i).length=i:=by rw [List.length_take];omega
 have e0:l.take i=cs.take i:=by
  show (cs.take i++z).take i=_;rw [List.take_append_of_le_length (by omega),List.take_of_length_le (by omega)]
 have e1:l1.take (i+5)=cs.take i++nw:=by
  show (l.take i++nw++l.drop (i+nw.length)).take (i+5)=_;rw [e0,List.take_append_of_le_length (by simp only [List.length_append];omega),List.take_of_length_le (by simp only [List.length_append];omega)]
 have el:l1.length=l.length:=by
  show (l.take i++nw++l.drop (i+nw.length)).length=_;have:m+5<=l.length:=h2;simp only [List.length_append,List.length_take,List.length_drop];omega
 rw [e1];have hl:m+5<=l.length:=h2;constructor
 ·simp only [List.length_append,List.length_take,List.length_drop];omega
 ·rw [List.take_append_of_le_length (by simp only [List.length_append,List.length_take,List.length_drop];omega),List.take_of_length_le (by simp only [List.length_append,List.length_take,List.length_drop];omega)]
def fc (f:Ar.F):List Value:=[.string f.name,.int .i64 f.dict,.int .i64 f.size,.int .i64 f.sum,.string f.blk]
theorem Zok (fs:List Ar.F) (f:Ar.F) (i:Nat):fcs (fs.take i++f :: fs.drop i)=(fcs fs).take (i*5)++fc f++(fcs fs).drop (i*5):=by
 rw [Zy,fcs,ZdK,ZdG,List.append_assoc];rfl
end Go.Proofs.YtbjbjbpgmojcbacGreat
