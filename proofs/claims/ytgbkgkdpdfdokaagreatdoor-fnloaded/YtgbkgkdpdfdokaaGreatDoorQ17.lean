import Derived.Laws.AppendOwnNone
import Derived.Test.YtgbkgkdpdfdokaaGreatDoorQ12
import Derived.Test.YtgbkgkdpdfdokaaGreatDoorQ16
namespace Go.Proofs.YtgbkgkdpdfdokaaGreatDoor
set_option linter.all false
set_option maxHeartbeats 16000000
set_option maxRecDepth 100000
open Go.RowKit
variable {T:Nat -> List OpR} {d:Nat -> Bool} {g i n:Nat} {ms:List zF} {ns os:List OpR} {out:List (List OpR)} {rk:Nat -> Nat} {us:List ByteArray} {v:Value} {w:World}
theorem zZ.low {B B':Nat} (h:zZ w B v us) (hb:B'<=B):zZ w B' v us:=by
 obtain ⟨h0,h1 | ⟨g,cap,H,h1,h2,h3⟩⟩:=h
 ·exact ⟨h0,yQ h1⟩
 ·exact ⟨h0,yR ⟨g,cap,H,h1,yr hb h2,h3⟩⟩
theorem zG.k2 {W W':JY} {rp:Nat} (h:zG w W rp) (h':K2 W W' rp g) (hg:w.heap.size<=g):zG w W' rp:=
 ⟨h'.os.trans h.os,h'.tape.trans h.tape,h'.output.trans h.output,yr h.size h'.size,fun i hi a=>(h'.block i (yi hi h.size) a (by omega)).trans (h.block i hi a)⟩
def GrR (W:JY) (rp:Nat) (a3:Option Addr) (us:List zD):Prop:=us.length=0\/∃ g,a3=some ⟨g,0,none⟩/\rp<g/\ZL W g us us.length
theorem ZU.grR {W:JY} {rp:Nat} {a3:Option Addr} {us:List zD} (h:ZU w n a3 us) (hn:rp<n) (hk:∀ g,n<=g->ZL w g us us.length->ZL W g us us.length):GrR W rp a3 us:=by
 rcases h with ⟨h,_⟩ | ⟨g,rfl,hg,hf⟩
 ·exact yQ h
 ·exact yR ⟨g,rfl,by omega,hk g hg hf⟩
theorem zP6 (bs:List UInt8) (ns:List OpR) (p:Nat):1<=(gnW bs ns p).2.length/\(gnW bs ns p).2.length<=127:=by
 have h:=zEf bs ns false (2+nxt bs p%5) (adv bs p) []
 have H:(2:Nat) ^ (2+nxt bs p%5+1)<=128:=by have:=Nat.pow_le_pow_right (show 0<2 by decide) (show 2+nxt bs p%5+1<=7 by omega); omega
 simp only [yW] at h
 unfold gnW
 omega
theorem zRQ (h:∀ i,(atO ns i).s.size<=16) (bs:List UInt8) (p:Nat):∀ o∈(gnW bs ns p).2,o.t.size<=16:=zIu h bs false _ _ [] (fun o ho=>by simp at ho)
def zEQ (w:JY) (g:Nat) (ns:List OpR):Prop:=g<w.heap.size/\Ops w g 0 ns
theorem zEQ.lt1 (h:zEQ w g ns):g<w.heap.size:=h.1
theorem zEQ.ops (h:zEQ w g ns):Ops w g 0 ns:=h.2
theorem zEQ.below {w w':JY} {g B:Nat} {ns:List OpR} (h:zEQ w g ns) (hb:Below B w w') (hB:g<B):zEQ w' g ns:=⟨yi h.1 hb.size,h.2.below hb hB⟩
theorem zAM.tabO (h:zAM w g ns ns.length):zEQ w g ns:=⟨h.lt1,h.ops⟩
theorem zG.tabO {w':JY} {rp:Nat} (h:zG w w' rp) (ht:zEQ w g ns) (H:g≠rp):zEQ w' g ns:=⟨yi ht.1 h.size,h.ops ht.2 ht.1 H⟩
theorem zF7 (rp cap p gt ct:Nat) (a:Option Addr) (bs:List UInt8) (ns:List OpR) (w:JY) (h:RdS w rp a cap bs p) (hl:bs.length<=1200) (hC:ns.length<=500) (ht:zEQ w gt ns) (Y:gt≠rp) (hs:∀ i,(atO ns i).s.size<=16) (ha:∀ j,j<ns.length->0<=(atO ns j).k/\(atO ns j).k<=9) :
  Calls Tryz.prog 48 #[.pointer (some ⟨rp,0,none⟩),.agg #[.slice (some ⟨gt,0,none⟩) ns.length ct]] w (zLX w rp cap a bs (fun ws q=>zMu bs ns p ws q)):=by
 have hH:=h.lt
 have hD:=ht.lt1
 have H:=zB h
 have HT:=zB ht
 have n:=zB hs
 have hb:=zB ha
 clear h ht hs ha
 go_enter Tryz.func48,Tryz.ntmps48
 go_wp2_with fail
 have O:=zB (zC w (.cells #[.slice (some ⟨gt,0,none⟩) ns.length ct] 33))
 (with_reducible refine (zAj rp cap p a bs _ ((zA H).below (zA O)) hl).mono ?_)
 rintro e w1 ⟨⟨k,rfl,hk,HK⟩,H1,HP1⟩
 have z1:w.heap.size+1<=w1.heap.size:=by have:=(zA HP1).size; simpa using this
 have tb1:w1.cell? ⟨w.heap.size,0,none⟩=some (.slice (some ⟨gt,0,none⟩) ns.length ct):=((zA HP1).cell (b:=w.heap.size) (by simp) (by omega) 0).trans (by simp [go_sem])
 have E:=zB ((zG.of_below (g:=rp) (zA O)).trans (zA HP1))
 have P:=zB ((zA E).tabO (zA HT) Y)
 clear H O HP1 HT
 by_cases N:k%4=3
 ·have e3:((k:Int)%4==3)=true:=by simp; omega
  have HX:=zB (zLY rp cap (adv bs p) gt ct a bs ns w1 (zA H1) hl (by omega) (zA P).ops (zA P).lt1 Y (zA n))
  go_wp2_with fail
  (with_reducible refine (zA HX).mono ?_)
  rintro e w2 ⟨g,c,q,ws,rfl,HR,h1,h2,HS,HD,H2,HP2⟩
  clear HX
  go_wp2_with fail
  go_ret
  refine ⟨g,c,q,ws,rfl,zB ?_,h1,h2,HS,zB (yQ ⟨by rw [<- zA HK]; exact N,zA HD⟩),H2,zB ((zA E).trans (zA HP2))⟩
  exact zZ.low (zA HR) (by omega)
 ·have e3:((k:Int)%4==3)=false:=by simp; omega
  obtain ⟨y,HY⟩:∃ y,Hid (gnW bs ns (adv bs p)=y):=⟨_,zB rfl⟩
  have o:=zP6 bs ns (adv bs p)
  have B:=zB (zRQ (zA n) bs (adv bs p))
  rw [zA HY] at o B
  obtain ⟨y1,xs⟩:=y
  simp only at o B
  obtain ⟨h7,hq⟩:=o
  have G:=zB ((zA P).below (yG w1.heap.size w1).drew (zA P).lt1)
  have d:=zB ((zA P).below (zC w1 (.cells #[.slice none 0 0] 125)).drew (zA P).lt1)
  have A:=zB (zDI rp cap (adv bs p) gt ct a bs ns false w1.drew ((zA H1).below (yG _ _).drew) hl (by omega) (zA hb) (zA G).ops (zA G).lt1 Y)
  have C:=zB (zDI rp cap (adv bs p) gt ct a bs ns false (w1.alloc (.cells #[.slice none 0 0] 125)).drew ((zA H1).below (zC w1 (.cells #[.slice none 0 0] 125)).drew) hl (by omega) (zA hb) (zA d).ops (zA d).lt1 Y)
  have J:=zB (show gen bs ns false (2+nxt bs (adv bs p)%5) (adv bs (adv bs p)) []=(y1,xs) from zA HY)
  rw [zA J] at A C
  simp only at A C
  have he:=zB ((zA E).trans (zG.of_below (g:=rp) (yG w1.heap.size w1).drew))
  have hv:=zB ((zA E).trans (zG.of_below (g:=rp) (zC w1 (.cells #[.slice none 0 0] 125)).drew))
  have tA:w1.drew.cell? ⟨w.heap.size,0,none⟩=some (.slice (some ⟨gt,0,none⟩) ns.length ct):=tb1
  have tB:(w1.alloc (.cells #[.slice none 0 0] 125)).drew.cell? ⟨w.heap.size,0,none⟩=some (.slice (some ⟨gt,0,none⟩) ns.length ct):=((zC w1 (.cells #[.slice none 0 0] 125)).drew.cell (p:=⟨w.heap.size,0,none⟩) (by show w.heap.size<w1.heap.size; omega)).trans tb1
  have xB:(w1.alloc (.cells #[.slice none 0 0] 125)).drew.cell? ⟨w1.heap.size,0,none⟩=some (.slice none 0 0):=by simp [go_sem]
  have fB:(w1.alloc (.cells #[.slice none 0 0] 125)).drew.frozen? ⟨w1.heap.size,0,none⟩=false:=by simp [go_sem]
  have hh:=zB (show Zg ns from fun i _=>by have:=(zA n) i; unfold maxLen; omega)
  have hn:=zB (show zFB xs from fun i hi=>by
   have:=(zA B) (atN xs i) (by unfold atN; rw [yk,yn hi]; exact List.getElem_mem hi)
   unfold maxLen; omega)
  clear HY
  go_wp2_with fail
  go_region_held3 (fun W=>W.cell? ⟨w.heap.size,0,none⟩=some (.slice (some ⟨gt,0,none⟩) ns.length ct)) (first | (go_keep; done) | exact tb2 | exact tb3 | exact (yg _ _ _ _ (fun e=>by injection e with e; omega)).trans tb3 | exact ((zC _ _).cell (p:=⟨w.heap.size,0,none⟩) (by show w.heap.size<w2.heap.size; omega)).trans tb2)
   (first
    | (go_at_call 75; (with_reducible refine (zA A).mono ?_); rintro e w2 ⟨⟨gn,cn,rfl,hcn,hgn,hN2⟩,H2,HP2⟩; have z2:w1.heap.size<=w2.heap.size:=(zA HP2).size; have X:=zB ((zA HP2).tabO (zA G) Y); have x:=zB hN2; have hj:w1.heap.size<=gn:=hgn; have D:=zB ((zA he).trans (zA HP2)); have tb2:=((zA HP2).cell (b:=w.heap.size) (by show w.heap.size<w1.heap.size; omega) (by omega) 0).trans tA; clear HP2 hN2 hgn)
    | (go_at_call 75; (with_reducible refine (zA C).mono ?_); rintro e w2 ⟨⟨gn,cn,rfl,hcn,hgn,hN2⟩,H2,HP2⟩; have z2:w1.heap.size+1<=w2.heap.size:=(by have:=(zA HP2).size; simpa using this); have X:=zB ((zA HP2).tabO (zA d) Y); have x:=zB hN2; have hj:w1.heap.size<=gn:=(by have:w1.heap.size+1<=gn:=(by simpa using hgn); omega); have D:=zB ((zA hv).trans (zA HP2)); have tb2:=((zA HP2).cell (b:=w.heap.size) (by simp; omega) (by omega) 0).trans tB; have x2:=((zA HP2).cell (b:=w1.heap.size) (by simp) (by omega) 0).trans xB; have f2:=((zA HP2).frozen (b:=w1.heap.size) (by simp) (by omega) 0).trans fB; clear HP2 hN2 hgn)
    | (go_at_call 74; have Q:=zD5 gt 0 ct gn 0 cn ns xs w2 (by omega) (by omega) (zA X).ops (zA hh) (zA X).lt1 (zA x).ops (zA hn) (zA x).lt1; (with_reducible refine Q.mono ?_); clear Q; rintro e w3 ⟨⟨a3,c3,us,v,rfl,HO3,HG3⟩,hb3⟩; have z3:=hb3.size; have H3:=zB ((zA H2).below hb3); have V:=zB ((zA D).trans (zG.of_below hb3)); have tb3:=(hb3.cell (p:=⟨w.heap.size,0,none⟩) (by show w.heap.size<w2.heap.size; omega)).trans tb2; (try have x3:=(hb3.cell (p:=⟨w1.heap.size,0,none⟩) (by show w1.heap.size<w2.heap.size; omega)).trans x2); (try have f3:=(hb3.frozen (p:=⟨w1.heap.size,0,none⟩) (by show w1.heap.size<w2.heap.size; omega)).trans f2); clear hb3)
    | (go_at_call 74; have Q:=zD5 gt 0 ct gn 0 cn ns xs (w2.alloc (.cells #[.slice none 0 0] 125)) (by omega) (by omega) ((zA X).below (zC _ _) (zA X).lt1).ops (zA hh) (by have:=(zA X).lt1; simp; omega) ((zA x).below (zC _ _) (zA x).lt1).ops (zA hn) (by have:=(zA x).lt1; simp; omega); (with_reducible refine Q.mono ?_); clear Q; rintro e w3 ⟨⟨a3,c3,us,v,rfl,HO3,HG3⟩,hb3⟩; have z3:w2.heap.size+1<=w3.heap.size:=(by have:=hb3.size; simpa using this); have H3:=zB (((zA H2).below (zC _ _)).below hb3); have V:=zB (((zA D).trans (zG.of_below (zC _ (.cells #[.slice none 0 0] 125)))).trans (zG.of_below hb3)); have tb3:=(hb3.cell (p:=⟨w.heap.size,0,none⟩) (by simp; omega)).trans (((zC w2 (.cells #[.slice none 0 0] 125)).cell (p:=⟨w.heap.size,0,none⟩) (by show w.heap.size<w2.heap.size; omega)).trans tb2); have x3:w3.cell? ⟨w2.heap.size,0,none⟩=some (.slice none 0 0):=(hb3.cell (p:=⟨w2.heap.size,0,none⟩) (by simp)).trans (by simp [go_sem]); have f3:w3.frozen? ⟨w2.heap.size,0,none⟩=false:=(hb3.frozen (p:=⟨w2.heap.size,0,none⟩) (by simp)).trans (by simp [go_sem]); clear hb3))
  obtain ⟨W4,K⟩:∃ W4,W4=w3.alloc (.cells #[.slice a3 us.length c3] 125):=⟨_,rfl⟩
  have t4:W4.cell? ⟨w3.heap.size,0,none⟩=some (.slice a3 us.length c3):=by rw [K]; simp [go_sem]
  have L:=zB (show GrR W4 rp a3 us by rw [K]; exact (zA HO3).grR (by omega) (fun g _ hf=>hf.below (zC _ _) hf.lt1))
  have H4:=zB (show RdS W4 rp a cap bs y1 by rw [K]; exact (zA H3).below (zC _ _))
  have U:=zB (show zG w W4 rp by rw [K]; exact (zA V).trans (zG.of_below (zC _ _)))
  rw [<- K]
  clear K
  rotate_left
  obtain ⟨W4,K⟩:∃ W4,W4=w3.setCell ⟨w2.heap.size,0,none⟩ (.slice a3 us.length c3):=⟨_,rfl⟩
  have t4:W4.cell? ⟨w2.heap.size,0,none⟩=some (.slice a3 us.length c3):=by rw [K]; exact yo _ _ _ x3
  have L:=zB (show GrR W4 rp a3 us by rw [K]; exact (zA HO3).grR (by simp; omega) (fun g hg hf=>hf.setCell _ _ _ (by simp at hg; omega)))
  have H4:=zB (show RdS W4 rp a cap bs y1 by rw [K]; exact (zA H3).set _ _ _ (by omega))
  have U:=zB (show zG w W4 rp by rw [K]; exact (zA V).setNew _ _ (by omega))
  rw [<- K]
  clear K x3 f3
  rotate_left
  obtain ⟨W4,K⟩:∃ W4,W4=w3.setCell ⟨w1.heap.size,0,none⟩ (.slice a3 us.length c3):=⟨_,rfl⟩
  have t4:W4.cell? ⟨w1.heap.size,0,none⟩=some (.slice a3 us.length c3):=by rw [K]; exact yo _ _ _ x3
  have L:=zB (show GrR W4 rp a3 us by rw [K]; exact (zA HO3).grR (by omega) (fun g hg hf=>hf.setCell _ _ _ (by omega)))
  have H4:=zB (show RdS W4 rp a cap bs y1 by rw [K]; exact (zA H3).set _ _ _ (by omega))
  have U:=zB (show zG w W4 rp by rw [K]; exact (zA V).setNew _ _ (by omega))
  rw [<- K]
  clear K x3 f3 x2 f2
  rotate_left
  all_goals
   clear A C G d he hv X x D H2 H3 V HO3 tA tB xB fB tb2 tb3
   have z4:=(zA U).size
   have lt4:=block_lt_of_cell t4
   cases v with
   | false=>
    go_wp2_with fail
    go_ret
    refine ⟨W4.heap.size,1,y1,[⟨#[97]⟩],rfl,zB (zZ.lit (by omega) _),by decide,by decide,zB (fun s hs=>by simp at hs; subst hs; decide),zB (yR ⟨by rw [<- zA HK]; exact N,us,false,?_,yQ ⟨rfl,rfl,?_⟩⟩),zB ((zA H4).below (zC _ _)),zB ((zA U).trans (zG.of_below (zC _ _)))⟩
    ·have:=zA HG3
     rw [show gnW bs ns (adv bs p)=(y1,xs) from zA J]
     exact this
    ·rw [show gnW bs ns (adv bs p)=(y1,xs) from zA J]
   | true=>
    obtain ⟨T,hT,I,hz,M⟩:=zLG hq (zA B) (zA HG3)
    have hp:=hT.pos
    have hr:us.length=tsz T:=by rw [I,ZO]
    obtain ⟨g3,rfl,hG,f⟩:∃ g,a3=some ⟨g,0,none⟩/\rp<g/\ZL W4 g us us.length:=by
     rcases zA L with h | h
     ·omega
     ·exact h
    have m:=f.lt1
    have hI:=zB f
    have HT:=zB hT
    have h4:=zB I
    have hA:=zB M
    have h0:us.length<=254:=by omega
    have h8:1<=us.length:=by omega
    have F:=zC W4 (.cells #[] 144)
    have hx:=zB (show Zn (W4.alloc (.cells #[] 144)) W4.heap.size W4.heap.size 0 [] by
     have:=yD (base:=W4.heap.size) (e:=144) (size:=4) W4 #[] 0 (yh _) (yj _) rfl
     simpa [Zn,zL] using this)
    have Q:=zLU rp cap a bs hl g3 c3 us W4.heap.size m (by omega) (by omega) (by omega) T hT 0 [] y1 (by rw [I]; exact zDk T) (by omega) (by simp; omega) W4.heap.size 0 _ (f.ops.below F m) (by simp) (zA hx) ((zA H4).below F)
    obtain ⟨T',u⟩:∃ T',Hid (T'=(moT bs T y1).2):=⟨_,zB rfl⟩
    obtain ⟨q',hu⟩:∃ q',Hid (q'=(moT bs T y1).1):=⟨_,zB rfl⟩
    rw [<- zA u,<- zA hu,List.nil_append,yW,yV,<- hr] at Q
    have h6:tsz T'<=508:=by rw [zA u]; have:=(zGx bs T y1).2; omega
    have r:=zB (show Sh T' by rw [zA u]; exact zI4 bs T y1 hT)
    have h3:=zB (show TxL 16 T' by rw [zA u]; exact zI5 bs 16 T y1 M)
    obtain ⟨vs,R⟩:∃ vs,Hid (vs=nd T' 0):=⟨_,zB rfl⟩
    rw [<- zA R] at Q
    have hd:vs.length=tsz T':=by rw [zA R,ZO]
    have hw:vs.length<=508:=by omega
    have hE:1<=vs.length:=by have:=(zA r).pos; omega
    obtain ⟨j,z⟩:∃ j,j=us.length-1:=⟨_,rfl⟩
    have ej:(us.length:Int)-1=(j:Int):=by omega
    rw [<- z] at Q
    have hm:=zB Q
    have t:=zB hd
    have h5:=zB F
    clear Q hr hd I M hT f z L hz hp F
    go_wp2_with fail
    (with_reducible refine (zA hm).mono ?_)
    rintro e w5 ⟨g5,c5,rfl,HR5,hg5,H5,HK5⟩
    have z5:W4.heap.size+1<=w5.heap.size:=by have:=(zA HK5).size; simpa using this
    obtain ⟨h9,S⟩:=zBJ (zA HR5)
    have l:=zKP g5 c5 vs (by omega) T' (zA r) 0 (by rw [zA R]; exact zDk T') (by rw [zA t]; omega) w5 S.ops S.lt1
    rw [yV,<- zA t] at l
    obtain ⟨j2,ho⟩:∃ j2,j2=vs.length-1:=⟨_,rfl⟩
    have ej2:(vs.length:Int)-1=(j2:Int):=by omega
    rw [<- ho] at l
    have Z:=zB l
    have hc:=zB ((zA U).trans (zG.of_below (g:=rp) (zA h5)))
    have hy:=zB ((zA hc).k2 (zA HK5) (by omega))
    clear l hm ho S HK5 hc
    go_wp2_with fail
    (with_reducible refine (zA Z).mono ?_)
    rintro e w6 ⟨g6,c6,rfl,HR6,HB6⟩
    have z6:=(zA HB6).size
    clear Z
    go_wp2_with fail
    go_ret
    have hF:=zGK (zA r)
    have hB:=zGH T'
    refine ⟨g6,c6,q',wdT T',rfl,zB (zZ.low (zA HR6) (by omega)),by omega,by omega,zB (zLF (by decide) T' (zA h3)),zB (yR ⟨by rw [<- zA HK]; exact N,us,true,?_,yR ⟨rfl,T,zA HT,zA h4,?_,?_⟩⟩),zB ((zA H5).below (zA HB6)),zB ((zA hy).trans (zG.of_below (zA HB6)))⟩
    ·rw [show gnW bs ns (adv bs p)=(y1,xs) from zA J]
     exact zA HG3
    ·rw [show gnW bs ns (adv bs p)=(y1,xs) from zA J,zA u]
    ·rw [show gnW bs ns (adv bs p)=(y1,xs) from zA J,zA hu]
theorem zRR {S:Nat->List OpR} (h:¬ B6 S i):(S i).length<=500:=
 Nat.le_of_not_lt fun x=>h ⟨1,yQ ⟨rfl,x⟩,by decide⟩
theorem zz.small {c H:Int} (h:zz ms out c H):out.length<=100/\∀ o∈out,o.length<=500:=by
 have nil:∀ {x y:Int},out=[]/\c=x/\H=y->out.length<=100/\∀ o∈out,o.length<=500:=fun h=>by rw [h.1]; exact ⟨by decide,fun o ho=>by cases ho⟩
 rcases h with ⟨_,h⟩ | ⟨hn,⟨_,_,_,_,h⟩ | ⟨_,h⟩⟩
 ·exact nil h
 ·exact nil h
 rcases h with ⟨_,_,_,_,h⟩ | ⟨_,h⟩
 ·exact nil h
 obtain ⟨U,_,h⟩:=h
 rcases h with ⟨_,_,_,_,h⟩ | ⟨_,h⟩
 ·exact nil h
 rcases h with ⟨_,_,_,_,h⟩ | ⟨_,h⟩
 ·exact nil h
 obtain ⟨S,_,h⟩:=h
 rcases h with ⟨_,_,_,_,h⟩ | ⟨hs,h⟩
 ·exact nil h
 obtain ⟨rfl,_⟩:=h
 refine ⟨by simpa using hn,fun o ho=>?_⟩
 obtain ⟨i,hi,rfl⟩:=List.mem_map.1 ho
 exact zRR (hs i (List.mem_range.1 hi))
theorem UnF.body {s:JZ}:∀ (ls:List (Nat×Nat)) (n:Nat) (us:List JZ) (os:List OpR) {u:List JZ} {o:List OpR} {b:JZ} {c l:Int},UnF s ls n us os u o b c l->b.size<=s.size
 | [],n,us,os,_,_,_,_,_,h=>by
  obtain ⟨rfl,rfl,rfl,rfl,rfl⟩:=h
  exact yj _
 | p::r,n,us,os,u,o,b,c,l,h=>by
  rcases h with ⟨_,rfl,rfl,rfl,rfl,rfl⟩ | ⟨_,⟨us',os',hl,h⟩ | ⟨_,rfl,rfl,rfl,rfl,rfl⟩⟩
  ·unfold zA3
   split
   ·rw [yw]; omega
   ·exact yj _
  ·exact UnF.body r _ _ _ h
  ·exact yj _
theorem zM2 {s:JZ} {u:List JZ} {o:List OpR} {b:JZ} {c l:Int} (h:zy s u o b c l):b.size<=20000:=by
 rcases h with ⟨_,rfl,rfl,rfl,rfl,rfl⟩ | ⟨h0,h⟩
 ·exact yj _
 ·exact yr (UnF.body _ _ _ _ h) h0
theorem zz.good {H:Int} (h:zz ms out 0 H):ms.length<=100/\(∀ i,i<ms.length->¬ B2 ms i)/\out.length=ms.length:=by
 rcases h with ⟨_,_,h,_⟩ | ⟨hn,⟨_,_,_,_,_,h,_⟩ | ⟨h2,h⟩⟩
 ·cases h
 ·cases h
 refine ⟨hn,h2,?_⟩
 rcases h with ⟨_,_,_,_,_,h,_⟩ | ⟨_,h⟩
 ·cases h
 obtain ⟨U,_,h⟩:=h
 rcases h with ⟨_,_,_,_,_,h,_⟩ | ⟨_,h⟩
 ·cases h
 rcases h with ⟨_,_,_,_,_,h,_⟩ | ⟨_,h⟩
 ·cases h
 obtain ⟨S,_,h⟩:=h
 rcases h with ⟨_,_,_,_,_,h,_⟩ | ⟨hs,h⟩
 ·cases h
 obtain ⟨rfl,_⟩:=h
 simp
theorem zKQ (w:JY) (o1 o2 o3:Obj):((((w.alloc o1).alloc o2).alloc o3).alloc (.cells #[] 57)).ownsRow (w.heap.size+3) 57 4 (.slice (some ⟨w.heap.size+1+1+1,0,none⟩) 0 0) 0 []:=by
 have h:=yD (base:=w.heap.size+3) (e:=57) (size:=4) (((w.alloc o1).alloc o2).alloc o3) #[] 0 (by simp) (yj _) rfl
 simpa using h
theorem zMT {ops:Array Oper} {rest:List Oper} {o:Oper} {a:Act} {Q:Exit->Act->World->Prop} (q:o.guard=none) (s x:Operand) (ho:o.op = .call { callee:=.builtin .append,args:=#[s,x],argTypes:=#[31,31] })
  (base g c:Nat) (xs ys:List OpR) (v2:Value) (hs:a.eval s = .slice (some ⟨g,0,none⟩) xs.length c) (k:w.ownsRow base 57 4 (.slice (some ⟨g,0,none⟩) xs.length c) xs.length (zU xs)) (hx:a.eval x=v2) (h2:zt w v2 ys) (hm:xs.length+ys.length<=1048576) (K:base<=w.heap.size)
  (h:∀ g' c' w',w'.ownsRow base 57 4 (.slice (some ⟨g',0,none⟩) (xs++ys).length c') (xs++ys).length (zU (xs++ys))->w.grownBy w' (some g)->wpList Tryz.prog ops Q rest (a.put o.dst (.slice (some ⟨g',0,none⟩) (xs++ys).length c')) w'):wpList Tryz.prog ops Q (o::rest) a w:=by
 obtain ⟨i0,hi,J,p,j⟩:=zN zCr
 obtain ⟨a2,c2,rfl,⟨h0,rfl,rfl⟩ | ⟨g2,rfl,P,X⟩⟩:=h2
 ·have hy:ys=[]:=yY.1 h0
  subst hy
  refine wpList_append_own_none q s x 31 ho base 57 i0 4 Tryz.underlying31 hi _ xs.length (zU xs) hs k hx ?_
  have:=h g c w (by simpa using k) (zH (yG _ _) _)
  simpa using this
 ·refine wpList_append_own w q s x 31 ho base 57 i0 _ 4 40 Tryz.underlying31 hi J p j rfl (by decide) _ xs.length (zU xs) hs k ⟨g2,0,none⟩ ys.length c2 (zU ys) hx (zB5 ys) (zJp X) (ZA ys) (by unfold maxLen; omega) (by omega) K ?_
  intro v' w' H Y y
  obtain ⟨g',c',rfl⟩:=zBS H (by simp [y])
  rw [<- ZT,<- ym] at H
  have:=h g' c' w' H (by simpa [Value.ownBlock] using Y)
  rw [<- ym]
  exact this
theorem zEx (v v':Value) (xs ys zs:List OpR) (E:Hid (zs=xs++ys)) (w:JY) (hm:xs.length+ys.length<=1048576) (hx:zt w v xs) (hy:zt w v' ys) :
  Calls Tryz.prog 29 #[.agg #[v],.agg #[v']] w fun e w'=>(∃ h cap,e = .returned (.agg #[.slice (some ⟨h,0,none⟩) (zAR zs zs.length).length cap])/\w.heap.size<=h/\zAM w' h (zAR zs zs.length) (zAR zs zs.length).length)/\Below w.heap.size w w':=by
 obtain ⟨i0,hi,L,O,r⟩:=zN zCr
 have I:=zKQ w
 have HX:=zB (show ∀ o1 o2 o3 o4,zt ((((w.alloc o1).alloc o2).alloc o3).alloc o4) v xs from fun o1 o2 o3 o4=>hx.grown (row:=none) (zH ((((zC w o1).alloc (by simp) o2).alloc (by simp; omega) o3).alloc (by simp; omega) o4) none) (fun g _ e=>by cases e))
 have HO:=zB I
 have HY:=zB hy
 have HI:=zB hi
 have HZ:=zB (yH L (yH O r))
 have z:=hx
 have t:=hy
 obtain ⟨a1,c1,rfl,_⟩:=z
 obtain ⟨a2,c2,rfl,_⟩:=t
 clear I hx hy hi L O r
 go_enter Tryz.func29,Tryz.ntmps29
 go_wp2_with (at_builtin; refine zMT rfl (.tmp 9) (.tmp 11) rfl (w.heap.size+3) _ _ [] xs _ rfl (zA HO _ _ _) rfl (zA HX _ _ _ _) (by simp; omega) (by simp) ?next)
 case next=>
  intro ga ca w1 y P
  try simp only [List.nil_append] at y
  try simp only [List.nil_append]
  have U:Below (w.heap.size+3) _ w1:=zFh P (by simp) (fun k hk=>by simp at hk; omega)
  have f:Below w.heap.size w w1:=((((zC _ _).alloc (by simp) _).alloc (by simp; omega) _).alloc (by simp; omega) _).trans (U.mono (by omega))
  have d1:w1.cell? ⟨w.heap.size+1,0,none⟩=some (.slice a2 ys.length c2):=by rw [U.cell (p:=⟨w.heap.size+1,0,none⟩) (show w.heap.size+1<_ by omega)]; simp [go_sem]
  have d2:w1.cell? ⟨w.heap.size+1+1,0,none⟩=some (.slice none 0 0):=by rw [U.cell (p:=⟨w.heap.size+1+1,0,none⟩) (show w.heap.size+1+1<_ by omega)]; simp [go_sem]
  have d3:w1.frozen? ⟨w.heap.size+1+1,0,none⟩=false:=by rw [U.frozen (p:=⟨w.heap.size+1+1,0,none⟩) (show w.heap.size+1+1<_ by omega)]; simp [go_sem]
  have z1:w.heap.size+3<=w1.heap.size:=by have:=U.size; simp at this; omega
  have W:=(y.lt ga rfl).1
  have F:=zB y
  have o:=zB ((zA HY).grown (row:=none) (zH f none) (fun g _ e=>by cases e))
  clear y P U HY HX HO
  go_wp2_with (at_builtin; refine zMT rfl (.tmp 13) (.tmp 15) rfl (w.heap.size+3) ga ca xs ys _ rfl (zA F) rfl (zA o) hm z1 ?next)
  case next=>
   intro gb cb w2 X u
   have c:Below (w.heap.size+3) w1 w2:=zFh u z1 (fun k hk=>by injection hk with hk; omega)
   have n:Below w.heap.size w w2:=f.trans (c.mono (by omega))
   have e2:w2.cell? ⟨w.heap.size+1+1,0,none⟩=some (.slice none 0 0):=(c.cell (p:=⟨w.heap.size+1+1,0,none⟩) (show w.heap.size+1+1<_ by omega)).trans d2
   have e3:w2.frozen? ⟨w.heap.size+1+1,0,none⟩=false:=(c.frozen (p:=⟨w.heap.size+1+1,0,none⟩) (show w.heap.size+1+1<_ by omega)).trans d3
   have z2:w.heap.size+3<=w2.heap.size:=yr z1 c.size
   have Z:zs.length<=1048576:=by rw [zA E]; simp; omega
   have A:xs.length+ys.length=zs.length:=by rw [zA E]; simp
   rw [A]
   rw [<- zA E,A] at X
   clear A
   obtain ⟨hl,b⟩:=zBe X
   obtain ⟨hh,hc⟩:=zNj X
   have HF:=zB b
   have G:=b.1
   have N:(w2.alloc (.cells #[] 57)).ownsRow w2.heap.size 57 4 (.slice (some ⟨w2.heap.size,0,none⟩) 0 0) 0 (zU []):=by
    rw [zK7]
    simpa using yD (base:=w2.heap.size) (e:=57) (size:=4) w2 #[] 0 (yh _) (yj _) rfl
   have S:=zB N
   clear X u c F o d1 d2 d3 W hm b N f z1
   go_wp2_with fail
   go_loopw [6,7] (fun out i wr=>∃ (k go co:Nat),k<=zs.length/\i = .int .i64 (k:Int)/\out = .slice (some ⟨go,0,none⟩) (zAR zs k).length co/\Hid (wr.ownsRow w2.heap.size 57 4 (.slice (some ⟨go,0,none⟩) (zAR zs k).length co) (zAR zs k).length (zU (zAR zs k)))/\Below w2.heap.size w2 wr) (fun _ i _=>zs.length-(intOf i).toNat)
   case atStart=>exact ⟨0,w2.heap.size,0,yj _,rfl,rfl,S,zC _ _⟩
   case round=>
    clear S
    obtain ⟨k,go,co,hk,rfl,rfl,V,H⟩:=hrel
    by_cases hb:k<zs.length
    ·have a:=(zA HF).ops.below H (zA HF).1
     obtain ⟨a0,a1,a2,a3⟩:=a k hb
     simp only [yV] at a0 a1 a2 a3
     have hf:(k:Int)<(zs.length:Int):=by omega
     have hg:(k:Int)<=(cb:Int):=by omega
     have zgb:gb<wr.heap.size:=yi G H.size
     have R:=zB a
     clear a
     go_wp2_with fail
     go_region_held (fun w'=>w'.cell? ⟨gb,k*4,none⟩=some (.string (atO zs k).s)/\w'.cell? ⟨gb,k*4+1,none⟩=some (.int .i64 (atO zs k).k)/\w'.cell? ⟨gb,k*4+2,none⟩=some (.int .i64 (atO zs k).l)/\w'.cell? ⟨gb,k*4+3,none⟩=some (.int .i64 (atO zs k).sd)) (go_keep)
      (first | (go_at_call 57; refine (zMv gb _ k zs (atO zs k) _ Z (by omega) (show Ops wr.drew gb 0 zs from zA R) zgb).mono ?_; rintro e w3 ⟨⟨v,rfl,hv⟩,hb3⟩; have HV:=zB hv; have j:=zB ((yG wr.heap.size wr).drew.trans hb3); have q0:=(hb3.cell (p:=⟨gb,k*4,none⟩) zgb).trans (show wr.drew.cell? ⟨gb,k*4,none⟩=_ from a0); have q1:=(hb3.cell (p:=⟨gb,k*4+1,none⟩) zgb).trans (show wr.drew.cell? ⟨gb,k*4+1,none⟩=_ from a1); have q2:=(hb3.cell (p:=⟨gb,k*4+2,none⟩) zgb).trans (show wr.drew.cell? ⟨gb,k*4+2,none⟩=_ from a2); have q3:=(hb3.cell (p:=⟨gb,k*4+3,none⟩) zgb).trans (show wr.drew.cell? ⟨gb,k*4+3,none⟩=_ from a3); clear hv hb3))
     have K:=H.trans ((zA j).mono H.size)
     have x:=zB ((zA V).kept (w':=w3) (row:=none) ⟨(zA j).os,(zA j).tape,(zA j).output,(zA j).size,fun i hi _=>(zA j).block i hi⟩ (yR (by simp [Value.ownBlock])))
     have hj:=zMJ zs k
     clear V j H a0 a1 a2 a3
     cases v
     ·have d:=zB (zJ7 (fun h=>Bool.false_ne_true ((zA HV).2 h)))
      clear HV
      go_wp2_with (at_builtin; refine wpList_append_own _ rfl (.tmp 33) (.tmp 38) 31 rfl w2.heap.size 57 i0 _ 4 40 Tryz.underlying31 (zA HI) (zA HZ).1 (zA HZ).2.1 (zA HZ).2.2 rfl (by decide) _ (zAR zs k).length (zU (zAR zs k)) rfl ((zA x).alloc _) ⟨w3.heap.size,0,none⟩ 1 1 (zU [atO zs k]) rfl rfl (zAH w3 (atO zs k)) (ZA _) ?b1 ?b2 ?b3 ?next)
      case b1=>unfold maxLen; omega
      case b2=>omega
      case b3=>have:=K.size; simp; omega
      case next=>
       intro v4 w4 Q J B
       have T:=(zA x).lt go rfl
       have D:Below w2.heap.size w2 w4:=(K.alloc K.size _).grown J (by have:=K.size; simp; omega) (fun q hq=>by simp [Value.ownBlock] at hq; omega)
       obtain ⟨g4,c4,rfl⟩:=zBS Q (by simp [B])
       have Y:(zAR zs (k+1)).length=(zAR zs k).length+1:=by rw [zA d]; simp
       rw [<- ZT,<- zA d,<- Y] at Q
       have he:=zB Q
       rw [<- Y]
       clear Q J B x Y d
       go_wp2
       exact ⟨⟨k+1,g4,c4,by omega,by go_num,rfl,he,D⟩,by simp [intOf]; omega⟩
     ·have m:=zB (zMI ((zA HV).1 rfl))
      clear HV
      go_wp2
      refine ⟨⟨k+1,go,co,by omega,by go_num,?_,?_,K⟩,by simp [intOf]; omega⟩
      ·rw [zA m]
      ·rw [zA m]; exact x
    ·have C:k=zs.length:=by omega
     have c2:wr.cell? ⟨w.heap.size+1+1,0,none⟩=some (.slice none 0 0):=(H.cell (p:=⟨w.heap.size+1+1,0,none⟩) (show w.heap.size+1+1<_ by omega)).trans e2
     have c3:wr.frozen? ⟨w.heap.size+1+1,0,none⟩=false:=(H.frozen (p:=⟨w.heap.size+1+1,0,none⟩) (show w.heap.size+1+1<_ by omega)).trans e3
     obtain ⟨T,M⟩:=zBe (zA V)
     have hd:=zB M
     have ha:=zB C
     clear M V C e2 e3
     go_wp2
     have C:=zA ha
     subst C
     refine yK (v:=.agg #[.slice (some ⟨go,0,none⟩) (zAR zs zs.length).length co]) (by simp [results,Tryz.results29,go_sem,c2]) rfl ⟨⟨go,co,rfl,by omega,?_⟩,?_⟩
     ·exact (zA hd).setCell _ _ (by simp; omega)
     ·exact (n.trans (H.mono (by omega))).setCell (by simp; omega) _
def upB (d:Nat->Bool) (i:Nat):Nat->Bool:=fun j=>if j=i then true else d j
def upT (T:Nat->List OpR) (i:Nat) (x:List OpR):Nat->List OpR:=fun j=>if j=i then x else T j
def zCV (w:JY) (v:Value) (os:List OpR):Prop:=∃ g c,v = .slice (some ⟨g,0,none⟩) os.length c/\g<w.heap.size/\Ops w g 0 os
theorem zCV.at' (h:zCV w v os):zt w v os:=by
 obtain ⟨g,c,rfl,h1,h2⟩:=h
 exact ⟨_,c,rfl,yR ⟨g,rfl,h1,h2⟩⟩
theorem zCV.of (h:zt w v os) (hq:∃ q,v.ownBlock=some q):zCV w v os:=by
 obtain ⟨a,c,rfl,⟨_,rfl,_⟩ | ⟨g,rfl,h1,h2⟩⟩:=h
 ·obtain ⟨q,hq⟩:=hq
  cases hq
 ·exact ⟨g,c,rfl,h1,h2⟩
theorem zCV.blk (h:zCV w v os):∃ q,v.ownBlock=some q:=by
 obtain ⟨g,c,rfl,_⟩:=h
 exact ⟨g,rfl⟩
theorem zCV.below {w w':JY} {v:Value} {os:List OpR} (h:zCV w v os) (hb:Below w.heap.size w w'):zCV w' v os:=zCV.of (h.at'.below hb) h.blk
structure zJB (w:JY) (n O D:Nat) (d:Nat->Bool) (T:Nat->List OpR) (wr:JY):Prop where
 dn:zCG wr D n d
 cs:∀ i,i<n->∃ v,wr.cell? ⟨O,i,none⟩=some v/\wr.frozen? ⟨O,i,none⟩=false/\(d i=true->zCV wr v (T i)/\∀ g,v.ownBlock=some g->g≠O/\g≠D/\w.heap.size<=g)
 bel:Below w.heap.size w wr
 hO:w.heap.size<=O
 hD:w.heap.size<=D
 hOl:O<wr.heap.size
 hOD:O≠D
theorem zJB.below {w wr wr':JY} {n O D:Nat} {d:Nat->Bool} {T:Nat->List OpR} (h:zJB w n O D d T wr) (hb:Below wr.heap.size wr wr'):zJB w n O D d T wr':=
 ⟨h.dn.below hb,fun i hi=>by
  obtain ⟨v,h1,h2,h3⟩:=h.cs i hi
  exact ⟨v,(hb.cell (p:=⟨O,i,none⟩) h.hOl).trans h1,(hb.frozen (p:=⟨O,i,none⟩) h.hOl).trans h2,fun e=>⟨(h3 e).1.below hb,(h3 e).2⟩⟩,h.bel.trans (hb.mono h.bel.size),h.hO,h.hD,yi h.hOl hb.size,h.hOD⟩
theorem zCV.set (h:zCV w v os) (p o:Nat) (x:Value) (H:∀ g,v.ownBlock=some g->g≠p):zCV (w.setCell ⟨p,o,none⟩ x) v os:=
 zCV.of (h.at'.grown (zf w p o x) (fun g e x=>by injection x with x; exact H g e x.symm)) h.blk
theorem zt.set (h:zt w v os) (p o:Nat) (x:Value) (H:∀ g,v.ownBlock=some g->g≠p):zt (w.setCell ⟨p,o,none⟩ x) v os:=
 h.grown (zf w p o x) (fun g e x=>by injection x with x; exact H g e x.symm)
theorem zJB.done {wr:JY} {O D:Nat} {X:List OpR} (h:zJB w n O D d T wr) (hi:i<n) (hv:zCV wr v X) (k:∀ g,v.ownBlock=some g->g≠O/\g≠D/\w.heap.size<=g) :
  zJB w n O D (upB d i) (upT T i X) ((wr.setCell ⟨O,i,none⟩ v).setCell ⟨D,i,none⟩ (.bool true)):=by
 have H:=h.hOD
 refine ⟨?_,fun j hj=>?_,(h.bel.setCell (p:=⟨O,i,none⟩) h.hO _).setCell (p:=⟨D,i,none⟩) h.hD _,h.hO,h.hD,by simpa [World.setCell] using h.hOl,H⟩
 ·exact ((h.dn.grown (zf wr O i v) (fun x=>H (by injection x))).set hi true).congr (fun j _=>rfl)
 ·obtain ⟨u,h1,h2,h3⟩:=h.cs j hj
  have hc:∀ (W:JY),(W.setCell ⟨D,i,none⟩ (.bool true)).cell? ⟨O,j,none⟩=W.cell? ⟨O,j,none⟩:=fun W=>yg _ _ _ _ (by first | (simp; done) | (simp; intro e; exact yP e.symm H) | (intro x; injection x with x; exact H x.symm))
  have hf:((wr.setCell ⟨O,i,none⟩ v).setCell ⟨D,i,none⟩ (.bool true)).frozen? ⟨O,j,none⟩=false:=by
   rw [yq,yq]; exact h2
  by_cases e:j=i
  ·subst e
   refine ⟨v,by rw [hc]; exact yo _ _ _ h1,hf,fun _=>⟨?_,k⟩⟩
   simp only [upT,if_true]
   exact (hv.set O j v (fun g e=>(k g e).1)).set D j _ (fun g e=>(k g e).2.1)
  ·refine ⟨u,by rw [hc,yg _ _ _ _ (by first | (simp; done) | (simp; omega) | (intro x; injection x with _ x; omega))]; exact h1,hf,fun hd=>?_⟩
   simp only [upB,e,if_false] at hd
   simp only [upT,e,if_false]
   obtain ⟨h4,h5⟩:=h3 hd
   exact ⟨(h4.set O i v (fun g e=>(h5 g e).1)).set D i _ (fun g e=>(h5 g e).2.1),h5⟩
def zHL (ms:List zF) (U:List UnR) (d:Nat->Bool) (T:Nat->List OpR):Prop:=∀ i,i<ms.length->d i=true->(∀ u∈(atU U i).us,d (nmF ms u)=true)/\T i=Za (nmF ms) T (zV [] (atU U i).os) (atU U i).us/\(T i).Nodup/\∀ o∈T i,o∈ZS U
theorem zHL.step {U:List UnR} {X:List OpR} (h:zHL ms U d T) (hU:U.length=ms.length) (hi:i<ms.length) (hn:d i=false) (Q:∀ u∈(atU U i).us,nmF ms u<ms.length) (hu:∀ u∈(atU U i).us,d (nmF ms u)=true) (hX:X=Za (nmF ms) T (zV [] (atU U i).os) (atU U i).us):zHL ms U (upB d i) (upT T i X):=by
 have q:∀ k,d k=true->k≠i:=fun k hk e=>by rw [e,hn] at hk; cases hk
 have hT:∀ (us:List JZ) (K:List OpR),(∀ u∈us,d (nmF ms u)=true)->Za (nmF ms) T K us=Za (nmF ms) (upT T i X) K us:=fun us K hd=>zDV us K (fun u hu=>by
  simp only [upT,q _ (hd u hu),if_false])
 intro j hj hd
 by_cases e:j=i
 ·subst e
  refine ⟨fun u H=>by simp only [upB]; rw [hu u H]; split <;> rfl,?_,?_,?_⟩
  ·simp only [upT,if_true]
   rw [hX]
   exact (hT _ _ hu).trans (by rw [<- hX])
  ·simp only [upT,if_true]
   rw [hX]
   exact zDU _ _ _ _ (zAK _ _ (by simp))
  ·simp only [upT,if_true]
   intro o ho
   rw [hX,zDs,ZZ] at ho
   rcases ho with (ho | ho) | ⟨u,H,ho⟩
   ·cases ho
   ·exact List.mem_flatMap.2 ⟨atU U j,zEq (by omega),ho⟩
   ·exact (h _ (Q u H) (hu u H)).2.2.2 o ho
 ·simp only [upB,e,if_false] at hd
  obtain ⟨h1,h2,h3,h4⟩:=h j hj hd
  have eT:upT T i X j=T j:=by simp only [upT,e,if_false]
  rw [eT]
  refine ⟨fun u H=>by simp only [upB]; rw [h1 u H]; split <;> rfl,?_,h3,h4⟩
  rw [<- hT _ _ h1]
  exact h2
def rdy (ms:List zF) (d:Nat->Bool) (i:Nat) (us:List JZ) (k:Nat):Bool:=!d i&&(us.take k).all (fun u=>d (nmF ms u))
theorem zOX {k:Nat} {u:JZ} (h:us[k]?=some u):rdy ms d i us (k+1)=(rdy ms d i us k&&d (nmF ms u)):=by
 unfold rdy
 rw [List.take_add_one,h,List.all_append]
 simp [Bool.and_assoc]
theorem zLZ {nm:ByteArray->Nat} {H:List OpR} {k:Nat} {u:JZ} (h:us[k]?=some u):Za nm T H (us.take (k+1))=zV (Za nm T H (us.take k)) (T (nm u)):=by
 rw [List.take_add_one,h]
 exact zG0 nm T H (us.take k) u
def zBO (n:Nat) (rk:Nat->Nat) (d:Nat->Bool) (r i:Nat):Prop:=∀ j,j<n->(rk j<r\/(rk j=r/\j<i))->d j=true
theorem zBO.up {r k:Nat} (h:zBO n rk d r i):zBO n rk (upB d k) r i:=fun j hj hr=>by
 simp only [upB]; rw [h j hj hr]; split <;> rfl
theorem zBO.next {r:Nat} (h:zBO n rk d r i) (hi:rk i=r->d i=true):zBO n rk d r (i+1):=fun j hj hr=>by
 by_cases e:j=i
 ·subst e
  rcases hr with hr | ⟨hr,_⟩
  ·exact h j hj (yQ hr)
  ·exact hi hr
 ·exact h j hj (by omega)
theorem zBO.round {r:Nat} (h:zBO n rk d r n):zBO n rk d (r+1) 0:=fun j hj hr=>h j hj (by omega)
end Go.Proofs.YtgbkgkdpdfdokaaGreatDoor
