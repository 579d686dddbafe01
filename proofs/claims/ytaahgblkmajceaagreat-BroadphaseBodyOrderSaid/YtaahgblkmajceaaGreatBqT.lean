/- Chapter 22: which tools of earlier chapters it uses (trim.py reads the names). -/
import Derived.Test.YtaahgblkmajceaaGreatSg4
import Derived.Test.YtaahgblkmajceaaGreatSg3
import Derived.Test.YtaahgblkmajceaaGreatBg2
namespace Go.Proofs.YtaahgblkmajceaaGreat
-- wpList_appE21 own_castk21 own_lit21 own_nil21 Vw2 vw_own vw_pts pv_take21 pv_drop21 pv_one21 Vw5 vw5_own vw5_ents ents_blk own_one21
-- eql_pair neq_pair eq_pair neq_same21 kmap kkey klit But bsrtd_lays bsorts xsort_own mapat_new MapAt hasI i64k rd_intw20 i64_of_wf Bxa bxa_open row_len row_ix ints_ix pairs_ix eqints_b
-- Q3 wpList_app20 wpList_app10 own_lo own_hi owns_els Els prL prs Srt insL srt_ext look remL pv_len20 pv_append20 info_pair info_parts owns_base own_lo21 own_hi21 step_append_lies
end Go.Proofs.YtaahgblkmajceaaGreat
